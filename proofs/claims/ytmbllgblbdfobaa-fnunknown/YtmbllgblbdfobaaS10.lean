/- What the specification's Unary answers. -/
import Derived.Test.YtmbllgblbdfobaaG3IT
namespace Go.Proofs.Ytmbllgblbdfobaa
open Go.RowKit
/-- The first letter, x for z. -/
def c0L (l : List UInt8) : UInt8 := if l.headD 0 = 122 then 120 else l.headD 0
def foldB (f : UInt8 → UInt8 → UInt8) (l : List UInt8) : UInt8 := l.tail.foldl f (c0L l)
/-- What Unary answers of a vector. -/
def unL (op : Int) (l : List UInt8) : List UInt8 :=
  if op = 19 then l.map notB else if op = 20 then (if l.all Vb.knB then Vb.nTxt l.length (2 ^ l.length - Vb.num l) else List.replicate l.length 120)
  else if op = 21 then [foldB andB l] else if op = 22 then [foldB orB l] else if op = 23 then [foldB xorB l] else if op = 24 then [notB (truthL l)] else []
theorem fold_step (f : UInt8 → UInt8 → UInt8) (s : ByteArray) (k : Nat) (h1 : 1 ≤ k) (hk : k < s.size) : ((L s).take (k + 1)).tail.foldl f (c0L (L s)) = f (((L s).take k).tail.foldl f (c0L (L s))) s[k] := by
  rw [L_take s k hk, List.tail_append_of_ne_nil, List.foldl_append]
  · rfl
  · intro e
    have := congrArg List.length e
    rw [List.length_take, L_len, List.length_nil] at this; omega
set_option maxHeartbeats 400000 in
theorem sUnary19 (s : ByteArray) (w : World) (hs : s.size ≤ maxLen) (hv : Vb.okV (L s) = true) :
    Calls Try.prog 44 #[.int .i64 19, .string s] w fun e w' => e = .returned (.string (S (unL 19 (L s)))) ∧ Below w.heap.size w w' := by
  obtain ⟨h1, h2, h3⟩ := (okV_iff s).1 hv
  have HV := hide hv
  clear hv h3
  go_enter Try.func44, Try.ntmps44
  go_wp2_with fail
  refine (sOK1 s _ hs (unhide HV)).mono ?_
  rintro e w1 ⟨rfl, rfl⟩
  go_wp2_with fail
  refine (sNotAll s _ (by omega)).mono ?_
  rintro e w2 ⟨rfl, hb2⟩
  go_wp2
  go_ret
  exact ⟨rfl, hb2⟩
set_option maxHeartbeats 400000 in
theorem sUnary20 (s : ByteArray) (w : World) (hs : s.size ≤ maxLen) (hv : Vb.okV (L s) = true) :
    Calls Try.prog 44 #[.int .i64 20, .string s] w fun e w' => e = .returned (.string (S (unL 20 (L s)))) ∧ Below w.heap.size w w' := by
  obtain ⟨h1, h2, h3⟩ := (okV_iff s).1 hv
  have HV := hide hv
  clear hv h3
  cases hk : (L s).all Vb.knB
  · have HU : Hid (unL 20 (L s) = List.replicate s.size 120) := by show _ = _; unfold unL; rw [if_neg (by decide), if_pos rfl, hk, L_len]; rfl
    have HK := hide hk
    clear hk
    go_enter Try.func44, Try.ntmps44
    go_wp2_with fail
    refine (sOK1 s _ hs (unhide HV)).mono ?_
    rintro e w1 ⟨rfl, rfl⟩
    go_wp2_with fail
    refine (sKnown s _ hs).mono ?_
    rw [unhide HK]
    rintro e w2 ⟨rfl, h⟩
    have h := h.symm
    subst h
    go_wp2_with fail
    refine (sFill 120 s.size _ (by omega)).mono ?_
    rintro e w2 ⟨rfl, hb2⟩
    go_wp2
    go_ret
    exact ⟨by rw [unhide HU]; rfl, hb2⟩
  · have HU : Hid (unL 20 (L s) = Vb.nTxt s.size (2 ^ s.size - Vb.num (L s))) := by show _ = _; unfold unL; rw [if_neg (by decide), if_pos rfl, hk, L_len]; rfl
    have HK := hide hk
    clear hk
    go_enter Try.func44, Try.ntmps44
    go_wp2_with fail
    refine (sOK1 s _ hs (unhide HV)).mono ?_
    rintro e w1 ⟨rfl, rfl⟩
    go_wp2_with fail
    refine (sKnown s _ hs).mono ?_
    rw [unhide HK]
    rintro e w2 ⟨rfl, h⟩
    have h := h.symm
    subst h
    go_wp2_with fail
    refine (sNeg s _ (by omega) (unhide HK)).mono ?_
    rintro e w2 ⟨rfl, hb2⟩
    go_wp2
    go_ret
    exact ⟨by rw [unhide HU]; rfl, hb2⟩
set_option maxHeartbeats 400000 in
theorem sUnary24 (s : ByteArray) (w : World) (hs : s.size ≤ maxLen) (hv : Vb.okV (L s) = true) :
    Calls Try.prog 44 #[.int .i64 24, .string s] w fun e w' => e = .returned (.string (S (unL 24 (L s)))) ∧ Below w.heap.size w w' := by
  have HV := hide hv
  clear hv
  have hcv := one_string ((notB (truthL (L s))).toNat : Int) (notB (truthL (L s))) rfl
  go_enter Try.func44, Try.ntmps44
  go_wp2_with fail
  refine (sOK1 s _ hs (unhide HV)).mono ?_
  rintro e w1 ⟨rfl, rfl⟩
  go_wp2_with fail
  refine (sTr s _ _ hs rfl).mono ?_
  rintro e w1 ⟨rfl, rfl⟩
  go_wp2_with fail
  refine (sNot _ _).mono ?_
  rintro e w2 ⟨rfl, h⟩
  have h := h.symm
  subst h
  go_wp2
  go_ret
  exact ⟨rfl, bal (brf _) _⟩
set_option maxHeartbeats 400000 in
theorem sUnary21 (s : ByteArray) (w : World) (hs : s.size ≤ maxLen) (hv : Vb.okV (L s) = true) :
    Calls Try.prog 44 #[.int .i64 21, .string s] w fun e w' => e = .returned (.string (S (unL 21 (L s)))) ∧ Below w.heap.size w w' := by
  obtain ⟨h1, h2, h3⟩ := (okV_iff s).1 hv
  have HV := hide hv
  clear hv h3
  have hp : 0 < s.size := by omega
  have h0 := L_head s hp
  have HU : Hid (unL 21 (L s) = [(L s).tail.foldl andB (c0L (L s))]) := by show _ = _; unfold unL foldB; rw [if_neg (by decide), if_neg (by decide), if_pos rfl]
  have hc0 : c0L (L s) = (if s[0] = 122 then (120 : UInt8) else s[0]) := by unfold c0L; rw [h0]
  clear h0
  go_enter Try.func44, Try.ntmps44
  go_wp2_with fail
  refine (sOK1 s _ hs (unhide HV)).mono ?_
  rintro e w1 ⟨rfl, rfl⟩
  by_cases hz : s[0] = 122
  all_goals
    first | rw [if_pos hz] at hc0 | rw [if_neg hz] at hc0
    first | (have hz' : (s[0].toNat : Int) = 122 := by rw [hz]; rfl) | (have hz' : ((s[0].toNat : Int) == 122) = false := u8_nq 122 (by omega) hz)
    have HC := hide hc0
    clear hc0 hz
    go_wp2
    go_loop [5, 6] (fun c i => ∃ k : Nat, 1 ≤ k ∧ k ≤ s.size ∧ i = .int .i64 k ∧ ∃ y : UInt8, c = .int .u8 (y.toNat : Int) ∧ y = ((L s).take k).tail.foldl andB (c0L (L s))) (fun _ i => s.size - (intOf i).toNat)
    case atStart => exact ⟨1, Nat.le_refl _, h1, rfl, _, rfl, by rw [unhide HC, L_take s 0 hp]; first | done | rfl⟩
    case round =>
      obtain ⟨k, hk1, hk, rfl, y, rfl, hy⟩ := hrel
      by_cases hlt : k < s.size
      · have st := fold_step andB s k hk1 hlt
        rw [← hy] at st
        have ST := hide st
        clear st hy
        go_wp2_with (first | (go_at_call 61; refine (sAnd _ _ _).mono ?_; rintro e w' ⟨rfl, rfl⟩))
        go_round
        case rel => exact ⟨k + 1, by omega, by omega, by go_num, _, rfl, (unhide ST).symm⟩
        case measure => simp [intOf]; omega
      · rw [L_take_all s k (by omega)] at hy
        have HY := hide hy
        clear hy
        have hcv := one_string (y.toNat : Int) y rfl
        go_wp2
        go_ret
        exact ⟨by rw [unhide HU, ← unhide HY]; rfl, bal (brf _) _⟩
set_option maxHeartbeats 400000 in
theorem sUnary22 (s : ByteArray) (w : World) (hs : s.size ≤ maxLen) (hv : Vb.okV (L s) = true) :
    Calls Try.prog 44 #[.int .i64 22, .string s] w fun e w' => e = .returned (.string (S (unL 22 (L s)))) ∧ Below w.heap.size w w' := by
  obtain ⟨h1, h2, h3⟩ := (okV_iff s).1 hv
  have HV := hide hv
  clear hv h3
  have hp : 0 < s.size := by omega
  have h0 := L_head s hp
  have HU : Hid (unL 22 (L s) = [(L s).tail.foldl orB (c0L (L s))]) := by show _ = _; unfold unL foldB; rw [if_neg (by decide), if_neg (by decide), if_neg (by decide), if_pos rfl]
  have hc0 : c0L (L s) = (if s[0] = 122 then (120 : UInt8) else s[0]) := by unfold c0L; rw [h0]
  clear h0
  go_enter Try.func44, Try.ntmps44
  go_wp2_with fail
  refine (sOK1 s _ hs (unhide HV)).mono ?_
  rintro e w1 ⟨rfl, rfl⟩
  by_cases hz : s[0] = 122
  all_goals
    first | rw [if_pos hz] at hc0 | rw [if_neg hz] at hc0
    first | (have hz' : (s[0].toNat : Int) = 122 := by rw [hz]; rfl) | (have hz' : ((s[0].toNat : Int) == 122) = false := u8_nq 122 (by omega) hz)
    have HC := hide hc0
    clear hc0 hz
    go_wp2
    go_loop [5, 6] (fun c i => ∃ k : Nat, 1 ≤ k ∧ k ≤ s.size ∧ i = .int .i64 k ∧ ∃ y : UInt8, c = .int .u8 (y.toNat : Int) ∧ y = ((L s).take k).tail.foldl orB (c0L (L s))) (fun _ i => s.size - (intOf i).toNat)
    case atStart => exact ⟨1, Nat.le_refl _, h1, rfl, _, rfl, by rw [unhide HC, L_take s 0 hp]; first | done | rfl⟩
    case round =>
      obtain ⟨k, hk1, hk, rfl, y, rfl, hy⟩ := hrel
      by_cases hlt : k < s.size
      · have st := fold_step orB s k hk1 hlt
        rw [← hy] at st
        have ST := hide st
        clear st hy
        go_wp2_with (first | (go_at_call 62; refine (sOr _ _ _).mono ?_; rintro e w' ⟨rfl, rfl⟩))
        go_round
        case rel => exact ⟨k + 1, by omega, by omega, by go_num, _, rfl, (unhide ST).symm⟩
        case measure => simp [intOf]; omega
      · rw [L_take_all s k (by omega)] at hy
        have HY := hide hy
        clear hy
        have hcv := one_string (y.toNat : Int) y rfl
        go_wp2
        go_ret
        exact ⟨by rw [unhide HU, ← unhide HY]; rfl, bal (brf _) _⟩
set_option maxHeartbeats 400000 in
theorem sUnary23 (s : ByteArray) (w : World) (hs : s.size ≤ maxLen) (hv : Vb.okV (L s) = true) :
    Calls Try.prog 44 #[.int .i64 23, .string s] w fun e w' => e = .returned (.string (S (unL 23 (L s)))) ∧ Below w.heap.size w w' := by
  obtain ⟨h1, h2, h3⟩ := (okV_iff s).1 hv
  have HV := hide hv
  clear hv h3
  have hp : 0 < s.size := by omega
  have h0 := L_head s hp
  have HU : Hid (unL 23 (L s) = [(L s).tail.foldl xorB (c0L (L s))]) := by show _ = _; unfold unL foldB; rw [if_neg (by decide), if_neg (by decide), if_neg (by decide), if_neg (by decide), if_pos rfl]
  have hc0 : c0L (L s) = (if s[0] = 122 then (120 : UInt8) else s[0]) := by unfold c0L; rw [h0]
  clear h0
  go_enter Try.func44, Try.ntmps44
  go_wp2_with fail
  refine (sOK1 s _ hs (unhide HV)).mono ?_
  rintro e w1 ⟨rfl, rfl⟩
  by_cases hz : s[0] = 122
  all_goals
    first | rw [if_pos hz] at hc0 | rw [if_neg hz] at hc0
    first | (have hz' : (s[0].toNat : Int) = 122 := by rw [hz]; rfl) | (have hz' : ((s[0].toNat : Int) == 122) = false := u8_nq 122 (by omega) hz)
    have HC := hide hc0
    clear hc0 hz
    go_wp2
    go_loop [5, 6] (fun c i => ∃ k : Nat, 1 ≤ k ∧ k ≤ s.size ∧ i = .int .i64 k ∧ ∃ y : UInt8, c = .int .u8 (y.toNat : Int) ∧ y = ((L s).take k).tail.foldl xorB (c0L (L s))) (fun _ i => s.size - (intOf i).toNat)
    case atStart => exact ⟨1, Nat.le_refl _, h1, rfl, _, rfl, by rw [unhide HC, L_take s 0 hp]; first | done | rfl⟩
    case round =>
      obtain ⟨k, hk1, hk, rfl, y, rfl, hy⟩ := hrel
      by_cases hlt : k < s.size
      · have st := fold_step xorB s k hk1 hlt
        rw [← hy] at st
        have ST := hide st
        clear st hy
        go_wp2_with (first | (go_at_call 63; refine (sXor _ _ _).mono ?_; rintro e w' ⟨rfl, rfl⟩))
        go_round
        case rel => exact ⟨k + 1, by omega, by omega, by go_num, _, rfl, (unhide ST).symm⟩
        case measure => simp [intOf]; omega
      · rw [L_take_all s k (by omega)] at hy
        have HY := hide hy
        clear hy
        have hcv := one_string (y.toNat : Int) y rfl
        go_wp2
        go_ret
        exact ⟨by rw [unhide HU, ← unhide HY]; rfl, bal (brf _) _⟩
set_option maxHeartbeats 400000 in
theorem sUnary_no (op : Int) (s : ByteArray) (w : World) (hs : s.size ≤ maxLen) (hv : Vb.okV (L s) = false) :
    Calls Try.prog 44 #[.int .i64 op, .string s] w fun e w' => e = .returned (.string (S [])) ∧ Below w.heap.size w w' := by
  have HV := hide hv
  clear hv
  go_enter Try.func44, Try.ntmps44
  go_wp2_with fail
  refine (sOK0 s _ hs (unhide HV)).mono ?_
  rintro e w1 ⟨rfl, rfl⟩
  go_wp2
  go_ret
  exact ⟨rfl, brf _⟩
set_option maxHeartbeats 400000 in
theorem sUnary_op (op : Int) (s : ByteArray) (w : World) (hs : s.size ≤ maxLen) (hv : Vb.okV (L s) = true) (ho : op < 19 ∨ 24 < op) :
    Calls Try.prog 44 #[.int .i64 op, .string s] w fun e w' => e = .returned (.string (S [])) ∧ Below w.heap.size w w' := by
  have HV := hide hv
  clear hv
  have n19 : (op == 19) = false := by simp; omega
  have n20 : (op == 20) = false := by simp; omega
  have n21 : (op == 21) = false := by simp; omega
  have n22 : (op == 22) = false := by simp; omega
  have n23 : (op == 23) = false := by simp; omega
  have n24 : (op == 24) = false := by simp; omega
  clear ho
  go_enter Try.func44, Try.ntmps44
  go_wp2_with fail
  refine (sOK1 s _ hs (unhide HV)).mono ?_
  rintro e w1 ⟨rfl, rfl⟩
  go_wp2
  go_ret
  exact ⟨rfl, brf _⟩
end Go.Proofs.Ytmbllgblbdfobaa
