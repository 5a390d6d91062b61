/- Small functions of the program. -/
import Derived.Test.YtkmpjoiefcjbnaaDoorIA
import Derived.Test.YtkmpjoiefcjbnaaDoorDD
namespace Go.Proofs.YtkmpjoiefcjbnaaDoor
open Go.RowKit Gs
set_option linter.unusedVariables false
set_option maxRecDepth 100000
theorem iPlace (n c : Int) (w : World) : Calls Tryd.prog 64 #[.int .i64 n, .int .i64 c] w fun e w' => e = .returned (.bool (decide (0 ≤ n) && decide (n < c))) ∧ w' = w := by
  go_enter Tryd.func64, Tryd.ntmps64
  by_cases h0 : 0 ≤ n
  · go_wp2
    exact bodyPost_ret (v := .bool (decide (n < c))) (by simp [results, Tryd.results64, go_sem]) rfl ⟨by rw [show decide (0 ≤ n) = true from decide_eq_true (by omega)]; rfl, rfl⟩
  · have h1 : n < 0 := by omega
    go_wp2
    exact bodyPost_ret (v := .bool false) (by simp [results, Tryd.results64, go_sem]) rfl ⟨by rw [show decide (0 ≤ n) = false from decide_eq_false (by omega)]; rfl, rfl⟩
theorem iWidthOK (n : Int) (w : World) : Calls Tryd.prog 68 #[.int .i64 n] w fun e w' => e = .returned (.bool (decide (1 ≤ n) && decide (n ≤ 64))) ∧ w' = w := by
  go_enter Tryd.func68, Tryd.ntmps68
  by_cases h0 : 1 ≤ n
  · go_wp2
    exact bodyPost_ret (v := .bool (decide (n ≤ 64))) (by simp [results, Tryd.results68, go_sem]) rfl ⟨by rw [show decide (1 ≤ n) = true from decide_eq_true (by omega)]; rfl, rfl⟩
  · have h1 : n < 1 := by omega
    go_wp2
    exact bodyPost_ret (v := .bool false) (by simp [results, Tryd.results68, go_sem]) rfl ⟨by rw [show decide (1 ≤ n) = false from decide_eq_false (by omega)]; rfl, rfl⟩
end Go.Proofs.YtkmpjoiefcjbnaaDoor
namespace Go.Proofs.YtkmpjoiefcjbnaaDoor
open Go.RowKit Gs
set_option linter.unusedVariables false
set_option maxRecDepth 100000
theorem iNameFits (s : ByteArray) (w : World) (hs : s.size ≤ maxLen) : Calls Tryd.prog 86 #[.string s] w fun e w' => e = .returned (.bool (decide (1 ≤ s.size) && decide (s.size ≤ 1000))) ∧ w' = w := by
  unfold maxLen at hs
  go_enter Tryd.func86, Tryd.ntmps86
  by_cases h0 : 1 ≤ (s.size : Int)
  · go_wp2
    exact bodyPost_ret (v := .bool (decide ((s.size : Int) ≤ 1000))) (by simp [results, Tryd.results86, go_sem]) rfl ⟨by rw [show decide (1 ≤ s.size) = true from decide_eq_true (by omega), show decide ((s.size : Int) ≤ 1000) = decide (s.size ≤ 1000) from decide_eq_decide.2 (by omega)]; rfl, rfl⟩
  · have h1 : (s.size : Int) < 1 := by omega
    go_wp2
    exact bodyPost_ret (v := .bool false) (by simp [results, Tryd.results86, go_sem]) rfl ⟨by rw [show decide (1 ≤ s.size) = false from decide_eq_false (by omega)]; rfl, rfl⟩
def signOp (n : Int) : Bool := decide (n = 7) || decide (n = 8) || decide (n = 12) || decide (n = 13)
theorem iSign (n : Int) (w : World) : Calls Tryd.prog 93 #[.int .i64 n] w fun e w' => e = .returned (.bool (signOp n)) ∧ w' = w := by
  go_enter Tryd.func93, Tryd.ntmps93
  by_cases h7 : n = 7
  · subst h7; go_wp2
    exact bodyPost_ret (v := .bool true) (by simp [results, Tryd.results93, go_sem]) rfl ⟨rfl, rfl⟩
  by_cases h8 : n = 8
  · subst h8; go_wp2
    exact bodyPost_ret (v := .bool true) (by simp [results, Tryd.results93, go_sem]) rfl ⟨rfl, rfl⟩
  by_cases h12 : n = 12
  · subst h12; go_wp2
    exact bodyPost_ret (v := .bool true) (by simp [results, Tryd.results93, go_sem]) rfl ⟨rfl, rfl⟩
  have b7 : (n == 7) = false := by simpa using h7
  have b8 : (n == 8) = false := by simpa using h8
  have b12 : (n == 12) = false := by simpa using h12
  go_wp2
  exact bodyPost_ret (v := .bool (n == 13)) (by simp [results, Tryd.results93, go_sem]) rfl ⟨by simp [signOp, h7, h8, h12]; rfl, rfl⟩
def cellOp (n : Int) : Bool := decide (n ≠ 7) && decide (n ≠ 8) && decide (n ≠ 11) && decide (1 ≤ n) && decide (n ≤ 29)
theorem iCellOp (n : Int) (w : World) : Calls Tryd.prog 83 #[.int .i64 n] w fun e w' => e = .returned (.bool (cellOp n)) ∧ w' = w := by
  go_enter Tryd.func83, Tryd.ntmps83
  by_cases h7 : n = 7
  · subst h7; go_wp2
    exact bodyPost_ret (v := .bool false) (by simp [results, Tryd.results83, go_sem]) rfl ⟨rfl, rfl⟩
  by_cases h8 : n = 8
  · subst h8; go_wp2
    exact bodyPost_ret (v := .bool false) (by simp [results, Tryd.results83, go_sem]) rfl ⟨rfl, rfl⟩
  by_cases h11 : n = 11
  · subst h11; go_wp2
    exact bodyPost_ret (v := .bool false) (by simp [results, Tryd.results83, go_sem]) rfl ⟨rfl, rfl⟩
  have b7 : (n == 7) = false := by simpa using h7
  have b8 : (n == 8) = false := by simpa using h8
  have b11 : (n == 11) = false := by simpa using h11
  by_cases h0 : 1 ≤ n
  · go_wp2
    exact bodyPost_ret (v := .bool (decide (n ≤ 29))) (by simp [results, Tryd.results83, go_sem]) rfl ⟨by simp [cellOp, h7, h8, h11, h0], rfl⟩
  · have h1 : n < 1 := by omega
    go_wp2
    exact bodyPost_ret (v := .bool false) (by simp [results, Tryd.results83, go_sem]) rfl ⟨by rw [show cellOp n = false by unfold cellOp; rw [show decide (1 ≤ n) = false from decide_eq_false (by omega)]; simp], rfl⟩
end Go.Proofs.YtkmpjoiefcjbnaaDoor
namespace Go.Proofs.YtkmpjoiefcjbnaaDoor
open Go.RowKit Gs
set_option linter.unusedVariables false
set_option maxRecDepth 100000
theorem iBitsOK (s : ByteArray) (w : World) (hs : s.size ≤ maxLen) : Calls Tryd.prog 96 #[.string s] w fun e w' => e = .returned (.bool (Vb.okV (L s))) ∧ Below w.heap.size w w' := by
  cases h : Vb.okV (L s)
  · go_enter Tryd.func96, Tryd.ntmps96
    go_wp2_with (go_at_call 91; refine (iVecOf_no s _ hs h).mono ?_; rintro e W1 ⟨rfl, hb1⟩; have HB := hide hb1; clear hb1; unfold V)
    exact bodyPost_ret (v := .bool false) (by simp [results, Tryd.results96, go_sem]) rfl ⟨rfl, bal (unhide HB) _⟩
  · go_enter Tryd.func96, Tryd.ntmps96
    go_wp2_with (go_at_call 91; refine (iVecOf s _ hs h).mono ?_; rintro e W1 ⟨rfl, hb1⟩; have HB := hide hb1; clear hb1; unfold V)
    exact bodyPost_ret (v := .bool true) (by simp [results, Tryd.results96, go_sem]) rfl ⟨rfl, bal (unhide HB) _⟩
def anyW (n : Int) : Bool := decide (14 ≤ n) && decide (n ≤ 18)
theorem iAnyW (n : Int) (w : World) : Calls Tryd.prog 98 #[.int .i64 n] w fun e w' => e = .returned (.bool (anyW n)) ∧ w' = w := by
  go_enter Tryd.func98, Tryd.ntmps98
  by_cases h0 : 14 ≤ n
  · go_wp2
    exact bodyPost_ret (v := .bool (decide (n ≤ 18))) (by simp [results, Tryd.results98, go_sem]) rfl ⟨by unfold anyW; rw [show decide (14 ≤ n) = true from decide_eq_true (by omega)]; rfl, rfl⟩
  · have h1 : n < 14 := by omega
    go_wp2
    exact bodyPost_ret (v := .bool false) (by simp [results, Tryd.results98, go_sem]) rfl ⟨by unfold anyW; rw [show decide (14 ≤ n) = false from decide_eq_false (by omega)]; rfl, rfl⟩
end Go.Proofs.YtkmpjoiefcjbnaaDoor
namespace Go.Proofs.YtkmpjoiefcjbnaaDoor
open Go.RowKit Gs
set_option linter.unusedVariables false
set_option maxRecDepth 100000
theorem iReads (op width n : Int) (sg : Bool) (s : ByteArray) (a : Option Addr) (len : Nat) (c : Nat) (wd : Int) (w : World) (hl : len ≤ maxLen) :
    Calls Tryd.prog 65 #[.agg #[.int .i64 op, .int .i64 width, .int .i64 n, .bool sg, .string s, .slice a len c], .int .i64 wd] w fun e w' => e = .returned (.bool (decide (width = wd) && !sg && s.toList.isEmpty && decide (len = 0))) ∧ Below w.heap.size w w' := by
  unfold maxLen at hl
  by_cases h0 : width = wd
  · subst h0
    cases sg
    · cases h1 : s.toList.isEmpty
      · go_enter Tryd.func65, Tryd.ntmps65
        go_wp2
        refine bodyPost_ret (v := .bool false) (by simp [results, Tryd.results65, go_sem]) rfl ⟨?_, bal (brf w) _⟩
        simp
      · go_enter Tryd.func65, Tryd.ntmps65
        go_wp2
        refine bodyPost_ret (v := .bool ((len : Int) == 0)) (by simp [results, Tryd.results65, go_sem]) rfl ⟨?_, bal (brf w) _⟩
        rw [show ((len : Int) == 0) = decide (len = 0) from (show ((len : Int) == 0) = decide ((len : Int) = 0) from rfl).trans (decide_eq_decide.2 (by omega))]
        simp
    · go_enter Tryd.func65, Tryd.ntmps65
      go_wp2
      refine bodyPost_ret (v := .bool false) (by simp [results, Tryd.results65, go_sem]) rfl ⟨?_, bal (brf w) _⟩
      simp
  · have h2 : (width == wd) = false := beq_eq_false_iff_ne.2 h0
    go_enter Tryd.func65, Tryd.ntmps65
    go_wp2
    refine bodyPost_ret (v := .bool false) (by simp [results, Tryd.results65, go_sem]) rfl ⟨?_, bal (brf w) _⟩
    simp [h0]
theorem iLike (op width n : Int) (sg : Bool) (s : ByteArray) (v : Value) (a : Option Addr) (l c : Nat) (w : World) :
    Calls Tryd.prog 67 #[.agg #[.int .i64 op, .int .i64 width, .int .i64 n, .bool sg, .string s, v], .slice a l c] w fun e w' => e = .returned (.agg #[.int .i64 op, .int .i64 width, .int .i64 n, .bool sg, .string s, .slice a l c]) ∧ Below w.heap.size w w' := by
  go_enter Tryd.func67, Tryd.ntmps67
  go_wp2
  exact bodyPost_ret (v := .agg #[.int .i64 op, .int .i64 width, .int .i64 n, .bool sg, .string s, .slice a l c]) (by simp [results, Tryd.results67, go_sem]) rfl ⟨rfl, bal (bal (brf w) _) _⟩
theorem kv_cells {w W1 : World} (hb1 : Below (w.alloc (.cells #[.int .i64 0, .int .u64 0, .int .u64 0] 131)).heap.size (w.alloc (.cells #[.int .i64 0, .int .u64 0, .int .u64 0] 131)) W1) :
    (W1.cell? ⟨w.heap.size, 0, none⟩ = some (.int .i64 0) ∧ W1.cell? ⟨w.heap.size, 1, none⟩ = some (.int .u64 0) ∧ W1.cell? ⟨w.heap.size, 2, none⟩ = some (.int .u64 0)) ∧ (W1.frozen? ⟨w.heap.size, 0, none⟩ = false ∧ W1.frozen? ⟨w.heap.size, 1, none⟩ = false ∧ W1.frozen? ⟨w.heap.size, 2, none⟩ = false) ∧ w.heap.size < W1.heap.size ∧ Below w.heap.size w W1 := by
  have hsz : (w.alloc (.cells #[.int .i64 0, .int .u64 0, .int .u64 0] 131)).heap.size = w.heap.size + 1 := by go_simp
  have h1 := hb1.size
  refine ⟨⟨cell_later hb1 (by go_simp), cell_later hb1 (by go_simp), cell_later hb1 (by go_simp)⟩, ⟨((bcell hb1).2 _ _ (by omega)).trans (by go_simp), ((bcell hb1).2 _ _ (by omega)).trans (by go_simp), ((bcell hb1).2 _ _ (by omega)).trans (by go_simp)⟩, by omega, btr (bal (brf w) _) hb1⟩
theorem iKnownVec_no (s : ByteArray) (w : World) (hs : s.size ≤ maxLen) (h : Vb.okV (L s) = false) : Calls Tryd.prog 82 #[.string s] w fun e w' => e = .returned (.tuple #[V 0 0#64 0#64, .bool false]) ∧ Below w.heap.size w w' := by
  go_enter Tryd.func82, Tryd.ntmps82
  go_wp2_with (go_at_call 91; refine (iVecOf_no s _ hs h).mono ?_; rintro e W1 ⟨rfl, hb1⟩; obtain ⟨⟨c0, c1, c2⟩, ⟨f0, f1, f2⟩, hlt, hb⟩ := kv_cells hb1; have HB := hide hb; clear hb1 hb; unfold V)
  go_region
  go_wp2
  exact bodyPost_ret (v := .tuple #[V 0 0#64 0#64, .bool false]) (by simp [results, Tryd.results82, go_sem, V, c0, c1, c2, hlt]) rfl ⟨rfl, bdr (bal (bst (bst (bst (unhide HB) (Nat.le_refl _) _) (Nat.le_refl _) _) (Nat.le_refl _) _) _)⟩
theorem kv_after {w W1 W2 : World} {x0 x1 x2 : Value} (c0 : W1.cell? ⟨w.heap.size, 0, none⟩ = some (.int .i64 0)) (c1 : W1.cell? ⟨w.heap.size, 1, none⟩ = some (.int .u64 0)) (c2 : W1.cell? ⟨w.heap.size, 2, none⟩ = some (.int .u64 0)) (f0 : W1.frozen? ⟨w.heap.size, 0, none⟩ = false) (f1 : W1.frozen? ⟨w.heap.size, 1, none⟩ = false) (f2 : W1.frozen? ⟨w.heap.size, 2, none⟩ = false) (hlt : w.heap.size < W1.heap.size) (HB : Hid (Below w.heap.size w W1))
    (hb2 : Below (W1.alloc (.cells #[x0, x1, x2] 131)).drew.heap.size (W1.alloc (.cells #[x0, x1, x2] 131)).drew W2) :
    (W2.cell? ⟨w.heap.size, 0, none⟩ = some (.int .i64 0) ∧ W2.cell? ⟨w.heap.size, 1, none⟩ = some (.int .u64 0) ∧ W2.cell? ⟨w.heap.size, 2, none⟩ = some (.int .u64 0)) ∧ (W2.frozen? ⟨w.heap.size, 0, none⟩ = false ∧ W2.frozen? ⟨w.heap.size, 1, none⟩ = false ∧ W2.frozen? ⟨w.heap.size, 2, none⟩ = false) ∧ (W2.cell? ⟨W1.heap.size, 0, none⟩ = some x0 ∧ W2.cell? ⟨W1.heap.size, 1, none⟩ = some x1 ∧ W2.cell? ⟨W1.heap.size, 2, none⟩ = some x2) ∧ Below w.heap.size w W2 := by
  have hb := unhide HB
  have hbd : Below W1.heap.size W1 W2 := btr (bdr (bal (brf W1) _)) hb2
  refine ⟨⟨cell_later hbd c0, cell_later hbd c1, cell_later hbd c2⟩, ⟨((bcell hbd).2 _ _ hlt).trans f0, ((bcell hbd).2 _ _ hlt).trans f1, ((bcell hbd).2 _ _ hlt).trans f2⟩, ⟨cell_later hb2 (by go_simp), cell_later hb2 (by go_simp), cell_later hb2 (by go_simp)⟩, btr hb hbd⟩
theorem iKnownVec (s : ByteArray) (w : World) (hs : s.size ≤ maxLen) (h : Vb.okV (L s) = true) : Calls Tryd.prog 82 #[.string s] w fun e w' => e = .returned (.tuple #[V s.size (Vb.kn (L s)) (Vb.wh (L s)), .bool (Vb.kn (L s) == Vb.ones s.size)]) ∧ Below w.heap.size w w' := by
  have h64 : s.size ≤ 64 := ((okV_iff s).1 h).2.1
  go_enter Tryd.func82, Tryd.ntmps82
  go_wp2_with (go_at_call 91; refine (iVecOf s _ hs h).mono ?_; rintro e W1 ⟨rfl, hb1⟩; obtain ⟨⟨c0, c1, c2⟩, ⟨f0, f1, f2⟩, hlt, hb⟩ := kv_cells hb1; have HB := hide hb; clear hb1 hb; unfold V)
  go_region_with (first | (go_at_call 92; refine (iIsKnown _ _ _ h64 _).mono ?_; rintro e W2 ⟨rfl, hb2⟩; obtain ⟨⟨d0, d1, d2⟩, ⟨g0, g1, g2⟩, ⟨e0, e1, e2⟩, hb3⟩ := kv_after c0 c1 c2 f0 f1 f2 hlt HB hb2; have HB2 := hide hb3; clear hb2 hb3))
  all_goals (go_wp2; exact bodyPost_ret (v := .tuple #[V s.size (Vb.kn (L s)) (Vb.wh (L s)), .bool (Vb.kn (L s) == Vb.ones s.size)]) (by simp [results, Tryd.results82, go_sem, V, d0, d1, d2]) rfl ⟨rfl, bst (bst (bst (unhide HB2) (Nat.le_refl _) _) (Nat.le_refl _) _) (Nat.le_refl _) _⟩)
end Go.Proofs.YtkmpjoiefcjbnaaDoor
