/- operandsFit, of one operand. -/
import Derived.Test.YtgkfhaahcedbpaaGM6
import Derived.BigQuiet
import Derived.Test.YtgkfhaahcedbpaaGI1
namespace Go.Proofs.Ytgkfhaahcedbpaa
open Go.RowKit Gs
set_option linter.unusedVariables false
set_option maxRecDepth 100000
theorem bdn {w w' : World} {n : Nat} (h : Below w.heap.size w w') : Below w.heap.size w (w'.drewN n) := below_drewN h n
theorem beqI (a b : Int) : (a == b) = decide (a = b) := rfl
/-- A list's slice as the program sees it: its length, and the kids' widths in memory. -/
theorem kids_open {xs : List Int} {v : Value} {w : World} (hr : RS 6 RKid w 0 xs v) : ∃ a c, v = .slice a xs.length c ∧ ∀ j x, xs[j]? = some x → ∃ b o, a = some ⟨b, o, none⟩ ∧ w.cell? ⟨b, o + j * 6 + 1, none⟩ = some (.int .i64 x) ∧ xs.length ≤ c := by
  rcases hr.open with ⟨rfl, a, c, rfl⟩ | ⟨b, o, c, rfl, hc, hn, _, hcs⟩
  · exact ⟨a, c, rfl, fun j x h => by simp at h⟩
  · refine ⟨_, c, rfl, fun j x h => ⟨b, o, rfl, ?_, hc⟩⟩
    obtain ⟨u, hul, hat, hrx⟩ := hcs j x h
    obtain ⟨op, n, sg, s, ka, kl, kc, rfl⟩ := hrx
    exact hat.get (j := 1) rfl
def fits1 (op width : Int) (xs : List Int) : Bool := match xs with
  | [k] => if 20 < op then decide (width = 1) else decide (width = k)
  | _ => false
set_option maxHeartbeats 1600000 in
theorem iOperands1 (op width n : Int) (sg : Bool) (s : ByteArray) (xs : List Int) (v : Value) (w : World) (hop : 18 < op) (hr : RS 6 RKid w 0 xs v) :
    Calls Try.prog 59 #[.agg #[.int .i64 op, .int .i64 width, .int .i64 n, .bool sg, .string s, v]] w fun e w' => e = .returned (.bool (fits1 op width xs)) ∧ Below w.heap.size w w' := by
  have hlen := hr.len
  unfold maxLen at hlen
  obtain ⟨a, c, rfl, hk⟩ := kids_open hr
  clear hr
  by_cases h1 : xs.length = 1
  · obtain ⟨k, rfl⟩ := List.length_eq_one_iff.1 h1
    obtain ⟨b, o, rfl, k1, hc⟩ := hk 0 k rfl
    clear hk
    have k2 := cell_later (bal (brf w) (.cells #[.int .i64 op, .int .i64 width, .int .i64 n, .bool sg, .string s, .slice (some ⟨b, o, none⟩) 1 c] 72)) k1
    simp only [List.length_singleton, Nat.zero_mul, Nat.add_zero] at *
    by_cases h20 : 20 < op
    · go_enter Try.func59, Try.ntmps59
      cases hw : width == 1
      all_goals (
        go_wp2
        go_quiet (fail)
        go_wp2
        go_ret
        refine ⟨?_, bdn (bal (brf w) _)⟩
        rw [beqI] at hw
        simp [fits1, h20, hw])
    · have h20' : op ≤ 20 := by omega
      go_enter Try.func59, Try.ntmps59
      cases hw : width == k
      all_goals (
        go_wp2
        go_quiet (fail)
        go_wp2
        go_ret
        refine ⟨?_, bdn (bal (brf w) _)⟩
        rw [beqI] at hw
        show Ending.returned (.bool _) = .returned (.bool (if 20 < op then decide (width = 1) else decide (width = k)))
        rw [if_neg (by omega), hw])
  · have e : fits1 op width xs = false := by
      unfold fits1
      split
      · simp at h1
      · rfl
    rw [e]
    have q : ((xs.length : Int) == 1) = false := by rw [beqI]; exact decide_eq_false (by omega)
    clear hk
    go_enter Try.func59, Try.ntmps59
    by_cases h20 : 20 < op
    all_goals (
      go_wp2
      go_quiet (fail)
      go_wp2
      go_ret
      exact ⟨rfl, bdn (bal (brf w) _)⟩)
end Go.Proofs.Ytgkfhaahcedbpaa
namespace Go.Proofs.Ytgkfhaahcedbpaa
open Go.RowKit

set_option maxHeartbeats 400000 in
theorem sBitsOK (s : ByteArray) (w : World) (hs : s.size ≤ maxLen) :
    Calls Try.prog 11 #[.string s] w fun e w' => e = .returned (.bool (Vb.okV (L s))) ∧ w' = w := by
  unfold maxLen at hs
  by_cases h1 : (s.size : Int) < 1
  · go_enter Try.func11, Try.ntmps11
    go_wp2
    go_ret
    exact ⟨ret_bool (by simp [Vb.okV, L_len]; omega), rfl⟩
  · by_cases h2 : (64 : Int) < s.size
    · go_enter Try.func11, Try.ntmps11
      go_wp2
      go_ret
      exact ⟨ret_bool (by simp [Vb.okV, L_len]; omega), rfl⟩
    · go_enter Try.func11, Try.ntmps11
      go_wp2
      go_loop [3] (fun i => ∃ k : Nat, k ≤ s.size ∧ i = .int .i64 k ∧ ((L s).take k).all Vb.isV = true) (fun i => s.size - (intOf i).toNat)
      case atStart => exact ⟨0, Nat.zero_le _, rfl, rfl⟩
      case round =>
        obtain ⟨k, hk, rfl, hv⟩ := hrel
        have HV : Hid (((L s).take k).all Vb.isV = true) := hv
        clear hv
        by_cases hlt : k < s.size
        · have fin : Vb.isV s[k] = true → ∃ k1 : Nat, k1 ≤ s.size ∧ (.int .i64 (↑k + 1) : Value) = .int .i64 k1 ∧ ((L s).take k1).all Vb.isV = true :=
            fun h => ⟨k + 1, by omega, by go_num, all_step k hlt h HV.out⟩
          rcases cls s[k] with e | e | e | e | ⟨hn, n1, n2, n3, n4⟩
          · rw [e] at fin
            have e' : (s[k].toNat : Int) = 48 := by rw [e]; rfl
            clear e
            go_wp2
            go_round
            case rel => exact fin rfl
            case measure => simp [intOf]; omega
          · rw [e] at fin
            have e' : (s[k].toNat : Int) = 49 := by rw [e]; rfl
            clear e
            go_wp2
            go_round
            case rel => exact fin rfl
            case measure => simp [intOf]; omega
          · rw [e] at fin
            have e' : (s[k].toNat : Int) = 120 := by rw [e]; rfl
            clear e
            go_wp2
            go_round
            case rel => exact fin rfl
            case measure => simp [intOf]; omega
          · rw [e] at fin
            have e' : (s[k].toNat : Int) = 122 := by rw [e]; rfl
            clear e
            go_wp2
            go_round
            case rel => exact fin rfl
            case measure => simp [intOf]; omega
          · clear fin
            go_wp2
            go_ret
            exact ⟨ret_bool (by simp [Vb.okV, not_all k hlt hn]), rfl⟩
        · go_wp2
          go_ret
          refine ⟨ret_bool ?_, rfl⟩
          have h := HV.out
          rw [L_take_all s k (by omega)] at h
          exact ((okV_iff s).2 ⟨by omega, by omega, h⟩).symm

end Go.Proofs.Ytgkfhaahcedbpaa
namespace Go.Proofs.Ytgkfhaahcedbpaa
open Go.RowKit Gs
set_option linter.unusedVariables false
/-- A kid: a constant of 0s. -/
abbrev RKz : Rd Int := RKid
theorem RKz.keeps : Keeps RKz := RKid.keeps
theorem RKz.lowers : Lowers RKz := RKid.lowers
theorem kzs_open {xs : List Int} {v : Value} {w : World} (hr : RS 6 RKz w 0 xs v) : ∃ a c, v = .slice a xs.length c ∧ ∀ j x, xs[j]? = some x → ∃ b o, a = some ⟨b, o, none⟩ ∧ w.cell? ⟨b, o + j * 6 + 1, none⟩ = some (.int .i64 x) ∧ xs.length ≤ c := by
  rcases hr.open with ⟨rfl, a, c, rfl⟩ | ⟨b, o, c, rfl, hc, hn, _, hcs⟩
  · exact ⟨a, c, rfl, fun j x h => by simp at h⟩
  · refine ⟨_, c, rfl, fun j x h => ⟨b, o, rfl, ?_, hc⟩⟩
    obtain ⟨u, hul, hat, hrx⟩ := hcs j x h
    obtain ⟨op, n, sg, s, ka, kl, kc, rfl⟩ := hrx
    exact hat.get (j := 1) rfl
end Go.Proofs.Ytgkfhaahcedbpaa
namespace Go.Proofs.Ytgkfhaahcedbpaa
open Go.RowKit Gs
set_option linter.unusedVariables false
set_option linter.unusedSimpArgs false
set_option maxRecDepth 100000
set_option maxHeartbeats 8000000 in
theorem sShA_no (op : Int) (width n : Int) (sg : Bool) (s : ByteArray) (xs : List Int) (v : Value) (p : Value) (w : World) (h1 : 1 ≤ op) (h2 : op ≤ 8) (h : xs.length ≠ 2) (hr : RS 6 RKz w 0 xs v) :
    Calls Try.prog 35 #[p, .agg #[.int .i64 op, .int .i64 width, .int .i64 n, .bool sg, .string s, v]] w fun e w' => e = .returned (.bool (false)) ∧ Below w.heap.size w w' := by
  have hlen := hr.len
  unfold maxLen at hlen
  obtain ⟨a, c, rfl⟩ := hr.slice
  clear hr
  have q : ((xs.length : Int) == 2) = false := decide_eq_false (by omega)
  go_enter Try.func35, Try.ntmps35
  go_wp2
  go_quiet (fail)
  go_wp2
  go_ret
  exact ⟨rfl, bdn (bal (brf w) _)⟩
set_option maxHeartbeats 8000000 in
theorem sShA (op : Int) (width n : Int) (sg : Bool) (s : ByteArray) (x y : Int) (v : Value) (p : Value) (w : World) (h1 : 1 ≤ op) (h2 : op ≤ 8) (hr : RS 6 RKz w 0 [x, y] v) :
    Calls Try.prog 35 #[p, .agg #[.int .i64 op, .int .i64 width, .int .i64 n, .bool sg, .string s, v]] w fun e w' => e = .returned (.bool ((x == width) && (y == width))) ∧ Below w.heap.size w w' := by
  obtain ⟨a, c, rfl, hk⟩ := kzs_open hr
  clear hr
  obtain ⟨b, o, rfl, k0, hc⟩ := hk 0 x rfl
  obtain ⟨b1, o1, e1, k1, _⟩ := hk 1 y rfl
  cases e1
  clear hk
  have l0 := cell_later (bal (brf w) (.cells #[.int .i64 op, .int .i64 width, .int .i64 n, .bool sg, .string s, .slice (some ⟨b, o, none⟩) 2 c] 72)) k0
  have l1 := cell_later (bal (brf w) (.cells #[.int .i64 op, .int .i64 width, .int .i64 n, .bool sg, .string s, .slice (some ⟨b, o, none⟩) 2 c] 72)) k1
  simp only [List.length_cons, List.length_nil, Nat.zero_mul, Nat.add_zero, Nat.one_mul, Nat.zero_add] at *
  cases c1 : x == width
  · go_enter Try.func35, Try.ntmps35
    go_wp2
    go_quiet (fail)
    go_wp2
    go_ret
    exact ⟨rfl, bdn (bal (brf w) _)⟩
  · skip
    go_enter Try.func35, Try.ntmps35
    go_wp2
    go_quiet (fail)
    go_wp2
    go_ret
    exact ⟨rfl, bdn (bal (brf w) _)⟩
set_option maxHeartbeats 8000000 in
theorem sShB_no (op : Int) (width n : Int) (sg : Bool) (s : ByteArray) (xs : List Int) (v : Value) (p : Value) (w : World) (h1 : 9 ≤ op) (h2 : op ≤ 13) (h : xs.length ≠ 2) (hr : RS 6 RKz w 0 xs v) :
    Calls Try.prog 35 #[p, .agg #[.int .i64 op, .int .i64 width, .int .i64 n, .bool sg, .string s, v]] w fun e w' => e = .returned (.bool (false)) ∧ Below w.heap.size w w' := by
  have hlen := hr.len
  unfold maxLen at hlen
  obtain ⟨a, c, rfl⟩ := hr.slice
  clear hr
  have q : ((xs.length : Int) == 2) = false := decide_eq_false (by omega)
  go_enter Try.func35, Try.ntmps35
  go_wp2
  go_quiet (fail)
  go_wp2
  go_ret
  exact ⟨rfl, bdn (bal (brf w) _)⟩
set_option maxHeartbeats 8000000 in
theorem sShB (op : Int) (width n : Int) (sg : Bool) (s : ByteArray) (x y : Int) (v : Value) (p : Value) (w : World) (h1 : 9 ≤ op) (h2 : op ≤ 13) (hr : RS 6 RKz w 0 [x, y] v) :
    Calls Try.prog 35 #[p, .agg #[.int .i64 op, .int .i64 width, .int .i64 n, .bool sg, .string s, v]] w fun e w' => e = .returned (.bool ((x == y) && (width == 1))) ∧ Below w.heap.size w w' := by
  obtain ⟨a, c, rfl, hk⟩ := kzs_open hr
  clear hr
  obtain ⟨b, o, rfl, k0, hc⟩ := hk 0 x rfl
  obtain ⟨b1, o1, e1, k1, _⟩ := hk 1 y rfl
  cases e1
  clear hk
  have l0 := cell_later (bal (brf w) (.cells #[.int .i64 op, .int .i64 width, .int .i64 n, .bool sg, .string s, .slice (some ⟨b, o, none⟩) 2 c] 72)) k0
  have l1 := cell_later (bal (brf w) (.cells #[.int .i64 op, .int .i64 width, .int .i64 n, .bool sg, .string s, .slice (some ⟨b, o, none⟩) 2 c] 72)) k1
  simp only [List.length_cons, List.length_nil, Nat.zero_mul, Nat.add_zero, Nat.one_mul, Nat.zero_add] at *
  cases c1 : x == y
  · go_enter Try.func35, Try.ntmps35
    go_wp2
    go_quiet (fail)
    go_wp2
    go_ret
    exact ⟨rfl, bdn (bal (brf w) _)⟩
  · skip
    go_enter Try.func35, Try.ntmps35
    go_wp2
    go_quiet (fail)
    go_wp2
    go_ret
    exact ⟨rfl, bdn (bal (brf w) _)⟩
set_option maxHeartbeats 8000000 in
theorem sShC_no (op : Int) (width n : Int) (sg : Bool) (s : ByteArray) (xs : List Int) (v : Value) (p : Value) (w : World) (h1 : 14 ≤ op) (h2 : op ≤ 16) (h : xs.length ≠ 2) (hr : RS 6 RKz w 0 xs v) :
    Calls Try.prog 35 #[p, .agg #[.int .i64 op, .int .i64 width, .int .i64 n, .bool sg, .string s, v]] w fun e w' => e = .returned (.bool (false)) ∧ Below w.heap.size w w' := by
  have hlen := hr.len
  unfold maxLen at hlen
  obtain ⟨a, c, rfl⟩ := hr.slice
  clear hr
  have q : ((xs.length : Int) == 2) = false := decide_eq_false (by omega)
  go_enter Try.func35, Try.ntmps35
  go_wp2
  go_quiet (fail)
  go_wp2
  go_ret
  exact ⟨rfl, bdn (bal (brf w) _)⟩
set_option maxHeartbeats 8000000 in
theorem sShC (op : Int) (width n : Int) (sg : Bool) (s : ByteArray) (x y : Int) (v : Value) (p : Value) (w : World) (h1 : 14 ≤ op) (h2 : op ≤ 16) (hr : RS 6 RKz w 0 [x, y] v) :
    Calls Try.prog 35 #[p, .agg #[.int .i64 op, .int .i64 width, .int .i64 n, .bool sg, .string s, v]] w fun e w' => e = .returned (.bool ((x == width))) ∧ Below w.heap.size w w' := by
  obtain ⟨a, c, rfl, hk⟩ := kzs_open hr
  clear hr
  obtain ⟨b, o, rfl, k0, hc⟩ := hk 0 x rfl
  obtain ⟨b1, o1, e1, k1, _⟩ := hk 1 y rfl
  cases e1
  clear hk
  have l0 := cell_later (bal (brf w) (.cells #[.int .i64 op, .int .i64 width, .int .i64 n, .bool sg, .string s, .slice (some ⟨b, o, none⟩) 2 c] 72)) k0
  have l1 := cell_later (bal (brf w) (.cells #[.int .i64 op, .int .i64 width, .int .i64 n, .bool sg, .string s, .slice (some ⟨b, o, none⟩) 2 c] 72)) k1
  simp only [List.length_cons, List.length_nil, Nat.zero_mul, Nat.add_zero, Nat.one_mul, Nat.zero_add] at *
  go_enter Try.func35, Try.ntmps35
  go_wp2
  go_quiet (fail)
  go_wp2
  go_ret
  exact ⟨rfl, bdn (bal (brf w) _)⟩
end Go.Proofs.Ytgkfhaahcedbpaa
