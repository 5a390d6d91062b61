/- The program's look at a flat design: what sets nothing; what an operation doesn't name. -/
import Derived.Test.YtgkfhaahcedbpaaGP1
namespace Go.Proofs.Ytgkfhaahcedbpaa
open Go Go.RowKit Gs
set_option linter.unusedVariables false
set_option linter.unusedSimpArgs false
set_option maxRecDepth 100000
set_option maxHeartbeats 4000000
def plainB (n low wide : Int) (le lk : Nat) (num ex kd : Int) : Bool := decide (n = num) && (decide (low = 0) && (decide (wide = 0) && (decide ((le : Int) = ex) && decide ((lk : Int) = kd))))
theorem iIsPlain (kind n low wide : Int) (ae ak : Option Addr) (le lk ce ck : Nat) (num ex kd : Int) (W : World) (h1 : le ≤ maxLen) (h2 : lk ≤ maxLen) :
    Calls Try.prog 42 #[.agg #[.int .i64 kind, .int .i64 n, .int .i64 low, .int .i64 wide, .slice ae le ce, .slice ak lk ck], .int .i64 num, .int .i64 ex, .int .i64 kd] W fun e W' => e = .returned (.bool (plainB n low wide le lk num ex kd)) ∧ Below W.heap.size W W' := by
  unfold maxLen at h1 h2
  unfold plainB
  by_cases g1 : n = num
  · subst g1
    by_cases g2 : low = 0
    · subst g2
      by_cases g3 : wide = 0
      · subst g3
        by_cases g4 : (le : Int) = ex
        · subst g4
          go_enter Try.func42, Try.ntmps42
          go_wp2
          exact bodyPost_ret (v := .bool ((lk : Int) == kd)) (by simp [results, Try.results42, go_sem]) rfl ⟨ret_bool (by simp; rfl), bal (brf W) _⟩
        · have b : ((le : Int) == ex) = false := beq_eq_false_iff_ne.2 g4
          go_enter Try.func42, Try.ntmps42
          go_wp2
          exact bodyPost_ret (v := .bool false) (by simp [results, Try.results42, go_sem]) rfl ⟨ret_bool (by simp [g4]), bal (brf W) _⟩
      · have b : (wide == 0) = false := beq_eq_false_iff_ne.2 g3
        go_enter Try.func42, Try.ntmps42
        go_wp2
        exact bodyPost_ret (v := .bool false) (by simp [results, Try.results42, go_sem]) rfl ⟨ret_bool (by simp [g3]), bal (brf W) _⟩
    · have b : (low == 0) = false := beq_eq_false_iff_ne.2 g2
      go_enter Try.func42, Try.ntmps42
      go_wp2
      exact bodyPost_ret (v := .bool false) (by simp [results, Try.results42, go_sem]) rfl ⟨ret_bool (by simp [g2]), bal (brf W) _⟩
  · have b : (n == num) = false := beq_eq_false_iff_ne.2 g1
    go_enter Try.func42, Try.ntmps42
    go_wp2
    exact bodyPost_ret (v := .bool false) (by simp [results, Try.results42, go_sem]) rfl ⟨ret_bool (by simp [g1]), bal (brf W) _⟩
/-- What onlyNamed answers. -/
def onlyG (op n : Int) (sg : Bool) (s : ByteArray) : Bool := (decide (op = 27) || (decide (op = 30) || (decide (op = 31) || decide (op = 32))) || decide (n = 0)) && (decide (op = 28) || signOp op || !sg) && (decide (op = 29) || s.toList.isEmpty)
theorem beq_dec (a b : Int) : (a == b) = decide (a = b) := rfl
theorem iOnlyG (op width n : Int) (sg : Bool) (s : ByteArray) (a : Option Addr) (len : Nat) (c : Nat) (w : World) :
    Calls Try.prog 53 #[.agg #[.int .i64 op, .int .i64 width, .int .i64 n, .bool sg, .string s, .slice a len c]] w fun e w' => e = .returned (.bool (onlyG op n sg s)) ∧ Below w.heap.size w w' := by
  have one : ∀ k : Int, (k = 27 ∨ k = 28 ∨ k = 30 ∨ k = 31 ∨ k = 32) → op = k → Calls Try.prog 53 #[.agg #[.int .i64 op, .int .i64 width, .int .i64 n, .bool sg, .string s, .slice a len c]] w fun e w' => e = .returned (.bool (onlyG op n sg s)) ∧ Below w.heap.size w w' := by
    intro k hk e
    rcases hk with rfl | rfl | rfl | rfl | rfl
    · subst e
      have hS : signOp 27 = false := rfl
      cases sg <;> cases hs : s.toList.isEmpty
      all_goals (
        go_enter Try.func53, Try.ntmps53
        go_wp2_with (first | (go_at_call 56; refine (iSign _ _).mono ?_; rintro e w' ⟨rfl, rfl⟩; rw [hS]))
        go_ret
        refine ⟨?_, bal (brf w) _⟩
        simp [onlyG, hS, hs])
    · subst e
      cases hn : n == 0 <;> cases hs : s.toList.isEmpty
      all_goals (
        go_enter Try.func53, Try.ntmps53
        go_wp2
        go_ret
        refine ⟨?_, bal (brf w) _⟩
        rw [beq_dec] at hn
        simp [onlyG, hn, hs])
    · subst e
      have hS : signOp 30 = false := rfl
      cases sg <;> cases hs : s.toList.isEmpty
      all_goals (
        go_enter Try.func53, Try.ntmps53
        go_wp2_with (first | (go_at_call 56; refine (iSign _ _).mono ?_; rintro e w' ⟨rfl, rfl⟩; rw [hS]))
        go_ret
        refine ⟨?_, bal (brf w) _⟩
        simp [onlyG, hS, hs])
    · subst e
      have hS : signOp 31 = false := rfl
      cases sg <;> cases hs : s.toList.isEmpty
      all_goals (
        go_enter Try.func53, Try.ntmps53
        go_wp2_with (first | (go_at_call 56; refine (iSign _ _).mono ?_; rintro e w' ⟨rfl, rfl⟩; rw [hS]))
        go_ret
        refine ⟨?_, bal (brf w) _⟩
        simp [onlyG, hS, hs])
    · subst e
      have hS : signOp 32 = false := rfl
      cases sg <;> cases hs : s.toList.isEmpty
      all_goals (
        go_enter Try.func53, Try.ntmps53
        go_wp2_with (first | (go_at_call 56; refine (iSign _ _).mono ?_; rintro e w' ⟨rfl, rfl⟩; rw [hS]))
        go_ret
        refine ⟨?_, bal (brf w) _⟩
        simp [onlyG, hS, hs])
  by_cases h27 : op = 27
  · exact one 27 (by omega) h27
  by_cases h28 : op = 28
  · exact one 28 (by omega) h28
  by_cases h30 : op = 30
  · exact one 30 (by omega) h30
  by_cases h31 : op = 31
  · exact one 31 (by omega) h31
  by_cases h32 : op = 32
  · exact one 32 (by omega) h32
  clear one
  have b30 : (op == 30) = false := beq_eq_false_iff_ne.2 h30
  have b31 : (op == 31) = false := beq_eq_false_iff_ne.2 h31
  have b32 : (op == 32) = false := beq_eq_false_iff_ne.2 h32
  have b27 : (op == 27) = false := beq_eq_false_iff_ne.2 h27
  have b28 : (op == 28) = false := beq_eq_false_iff_ne.2 h28
  cases hn : n == 0 <;> cases hS : signOp op <;> cases sg <;> cases hs : s.toList.isEmpty <;> cases b29 : op == 29
  all_goals (
    go_enter Try.func53, Try.ntmps53
    go_wp2_with (first | (go_at_call 56; refine (iSign _ _).mono ?_; rintro e w' ⟨rfl, rfl⟩; rw [hS]))
    go_ret
    refine ⟨?_, bal (brf w) _⟩
    rw [beq_dec] at hn b29
    simp [onlyG, hn, hs, hS, h27, h28, b29, h30, h31, h32])
end Go.Proofs.Ytgkfhaahcedbpaa
namespace Go.Proofs.Ytgkfhaahcedbpaa
open Go Go.RowKit Gs
set_option linter.unusedVariables false
set_option linter.unusedSimpArgs false
set_option maxRecDepth 100000
set_option maxHeartbeats 8000000
def sigAt (sg : List Signal) (n : Int) : Option Signal := if n < 0 then none else sg[n.toNat]?
theorem iSignalNo (lb : Nat) (sa : Option Addr) (sl sc : Nat) (n : Int) (W : World) (hsl : sl ≤ 1048576) (h0 : W.cell? ⟨lb, 0, none⟩ = some (.slice sa sl sc)) (hn : n < 0 ∨ (sl : Int) ≤ n) :
    Calls Try.prog 28 #[.pointer (some ⟨lb, 0, none⟩), .int .i64 n] W fun e W' => e = .returned (.tuple #[.agg #[.string ByteArray.empty, .int .i64 0, .int .i64 0, .int .i64 0, .bool false, .string ByteArray.empty], .bool false]) ∧ Below W.heap.size W W' := by
  have m0 := cell_later (bal (brf W) (.cells #[.string { data := #[] }, .int .i64 0, .int .i64 0, .int .i64 0, .bool false, .string { data := #[] }] 38)) h0
  by_cases h1 : n < 0
  · go_enter Try.func28, Try.ntmps28
    go_wp2
    refine bodyPost_ret (v := .tuple #[.agg #[.string { data := #[] }, .int .i64 0, .int .i64 0, .int .i64 0, .bool false, .string { data := #[] }], .bool false]) (by simp [results, Try.results28, go_sem]) rfl ⟨rfl, ?_⟩
    repeat first | exact bal (brf W) _ | refine bst ?_ (by simp) _
  · have h2 : (sl : Int) ≤ n := by omega
    go_enter Try.func28, Try.ntmps28
    go_wp2
    refine bodyPost_ret (v := .tuple #[.agg #[.string { data := #[] }, .int .i64 0, .int .i64 0, .int .i64 0, .bool false, .string { data := #[] }], .bool false]) (by simp [results, Try.results28, go_sem]) rfl ⟨rfl, ?_⟩
    repeat first | exact bal (brf W) _ | refine bst ?_ (by simp) _
theorem iSignalYes (lb sb so sl sc k : Nat) (g : Signal) (W : World) (hk : k < sl) (hsl : sl ≤ 1048576) (h0 : W.cell? ⟨lb, 0, none⟩ = some (.slice (some ⟨sb, so, none⟩) sl sc))
    (g0 : W.cell? ⟨sb, so + k * 6, none⟩ = some (.string g.name)) (g1 : W.cell? ⟨sb, so + k * 6 + 1, none⟩ = some (.int .i64 g.kind)) (g2 : W.cell? ⟨sb, so + k * 6 + 2, none⟩ = some (.int .i64 g.width)) (g3 : W.cell? ⟨sb, so + k * 6 + 3, none⟩ = some (.int .i64 g.depth)) (g4 : W.cell? ⟨sb, so + k * 6 + 4, none⟩ = some (.bool g.signed)) (g5 : W.cell? ⟨sb, so + k * 6 + 5, none⟩ = some (.string g.init)) :
    Calls Try.prog 28 #[.pointer (some ⟨lb, 0, none⟩), .int .i64 (k : Int)] W fun e W' => e = .returned (.tuple #[.agg #[.string g.name, .int .i64 g.kind, .int .i64 g.width, .int .i64 g.depth, .bool g.signed, .string g.init], .bool true]) ∧ Below W.heap.size W W' := by
  have hb := bal (brf W) (.cells #[.string { data := #[] }, .int .i64 0, .int .i64 0, .int .i64 0, .bool false, .string { data := #[] }] 38)
  have m0 := cell_later hb h0
  have q0 := cell_later hb g0
  have q1 := cell_later hb g1
  have q2 := cell_later hb g2
  have q3 := cell_later hb g3
  have q4 := cell_later hb g4
  have q5 := cell_later hb g5
  clear hb h0 g0 g1 g2 g3 g4 g5
  have hn0 : ¬ ((k : Int) < 0) := by omega
  have hn1 : ¬ ((sl : Int) ≤ (k : Int)) := by omega
  have i1 : (0 : Int) ≤ (k : Int) := by omega
  have i2 : (k : Int) < (sl : Int) := by omega
  go_enter Try.func28, Try.ntmps28
  go_wp2
  refine bodyPost_ret (v := .tuple #[.agg #[.string g.name, .int .i64 g.kind, .int .i64 g.width, .int .i64 g.depth, .bool g.signed, .string g.init], .bool true]) (by simp [results, Try.results28, go_sem]) rfl ⟨rfl, ?_⟩
  repeat first | exact bal (brf W) _ | refine bst ?_ (by simp) _
theorem iSignal (sg : List Signal) (lb : Nat) (sv : Value) (n : Int) (W : World) (hsl : sg.length ≤ 1048576) (h0 : W.cell? ⟨lb, 0, none⟩ = some sv) (hsg : RS 6 RSignal W 0 sg sv) :
    Calls Try.prog 28 #[.pointer (some ⟨lb, 0, none⟩), .int .i64 n] W fun e W' => (e = .returned (match sigAt sg n with | none => .tuple #[.agg #[.string ByteArray.empty, .int .i64 0, .int .i64 0, .int .i64 0, .bool false, .string ByteArray.empty], .bool false] | some g => .tuple #[.agg #[.string g.name, .int .i64 g.kind, .int .i64 g.width, .int .i64 g.depth, .bool g.signed, .string g.init], .bool true])) ∧ Below W.heap.size W W' := by
  obtain ⟨sa, sc, rfl⟩ := hsg.slice
  unfold sigAt
  by_cases hn : n < 0
  · rw [if_pos hn]
    exact iSignalNo lb sa _ sc n W hsl h0 (.inl hn)
  · rw [if_neg hn]
    obtain ⟨k, rfl⟩ : ∃ k : Nat, n = (k : Int) := ⟨n.toNat, by omega⟩
    rw [Int.toNat_natCast]
    by_cases hk : k < sg.length
    · obtain ⟨g, hg⟩ : ∃ g, sg[k]? = some g := ⟨_, List.getElem?_eq_getElem hk⟩
      rw [hg]
      obtain ⟨b, o, rfl, c0, c1, c2, c3, c4, c5, _, _⟩ := sig_cells hsg k g hg
      exact iSignalYes lb b o _ sc k g W hk hsl h0 c0 c1 c2 c3 c4 c5
    · rw [List.getElem?_eq_none (by omega)]
      exact iSignalNo lb sa _ sc k W hsl h0 (.inr (by omega))
end Go.Proofs.Ytgkfhaahcedbpaa
