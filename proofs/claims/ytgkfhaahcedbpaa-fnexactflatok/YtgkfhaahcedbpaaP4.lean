/- The program's look at a flat design: what reads a signal. -/
import Derived.Test.YtgkfhaahcedbpaaGP3
namespace Go.Proofs.Ytgkfhaahcedbpaa
open Go Go.RowKit Gs
set_option linter.unusedVariables false
set_option linter.unusedSimpArgs false
set_option maxRecDepth 100000
set_option maxHeartbeats 16000000
theorem iReadFits (sg : List Signal) (op width n : Int) (sd : Bool) (s : ByteArray) (ka : Option Addr) (L kc : Nat) (lb : Nat) (sv : Value) (W : World) (ho1 : 30 ≤ op) (ho2 : op ≤ 32) (hL : L ≤ maxLen) (hsl : sg.length ≤ 1048576) (h0 : W.cell? ⟨lb, 0, none⟩ = some sv) (hsg : RS 6 RSignal W 0 sg sv) :
    Calls Try.prog 57 #[.pointer (some ⟨lb, 0, none⟩), .agg #[.int .i64 op, .int .i64 width, .int .i64 n, .bool sd, .string s, .slice ka L kc]] W fun e W' => e = .returned (.bool (match sigAt sg n with | none => false | some g => sigB g op width L)) ∧ Below W.heap.size W W' := by
  unfold maxLen at hL
  obtain ⟨X, hX⟩ : ∃ X, X = W.alloc (.cells #[.int .i64 op, .int .i64 width, .int .i64 n, .bool sd, .string s, .slice ka L kc] 72) := ⟨_, rfl⟩
  have hb : Below W.heap.size W X := by rw [hX]; exact bal (brf W) _
  have HXB := hide hb
  have HSG := hide (iSignal sg lb sv n X hsl (cell_later hb h0) (hsg.later RSignal.keeps hb))
  have HE := hide (show X.cell? ⟨W.heap.size, 0, none⟩ = some (.int .i64 op) ∧ X.cell? ⟨W.heap.size, 1, none⟩ = some (.int .i64 width) ∧ X.cell? ⟨W.heap.size, 5, none⟩ = some (.slice ka L kc) from by
    refine ⟨?_, ?_, ?_⟩ <;> (rw [hX, World.cell?_alloc_new]; rfl))
  have HX := hide hX
  clear hb h0 hsg hX
  cases hs : sigAt sg n with
  | none =>
    rw [hs] at HSG
    go_enter Try.func57, Try.ntmps57
    go_wp2_with fail
    rw [← unhide HX]
    refine (unhide HSG).mono ?_
    rintro e V ⟨rfl, hb⟩
    have HB := hide (btr (unhide HXB) hb)
    have ha := bal (brf V) (.cells #[.string { data := #[] }, .int .i64 0, .int .i64 0, .int .i64 0, .bool false, .string { data := #[] }] 38)
    have e0 := cell_later ha (cell_later hb (unhide HE).1)
    have e1 := cell_later ha (cell_later hb (unhide HE).2.1)
    have e5 := cell_later ha (cell_later hb (unhide HE).2.2)
    clear hb ha
    go_wp2
    exact bodyPost_ret (v := .bool false) (by simp [results, Try.results57, go_sem]) rfl ⟨rfl, by first | exact bal (unhide HB) _ | (repeat first | exact bal (unhide HB) _ | refine bst ?_ (by simp) _)⟩
  | some g =>
    rw [hs] at HSG
    have HS := hide (show sigB g op width L = sigB g op width L from rfl)
    have hop : op = 30 ∨ op = 31 ∨ op = 32 := by omega
    clear hs
    obtain ⟨gn, gk, gw, gd, gs, gi⟩ := g
    by_cases h5 : gk = 5
    · subst h5
      rcases hop with rfl | rfl | rfl
      · skip
        go_enter Try.func57, Try.ntmps57
        go_wp2_with fail
        rw [← unhide HX]
        refine (unhide HSG).mono ?_
        rintro e V ⟨rfl, hb⟩
        have HB := hide (btr (unhide HXB) hb)
        have ha := bal (brf V) (.cells #[.string gn, .int .i64 5, .int .i64 gw, .int .i64 gd, .bool gs, .string gi] 38)
        have e0 := cell_later ha (cell_later hb (unhide HE).1)
        have e1 := cell_later ha (cell_later hb (unhide HE).2.1)
        have e5 := cell_later ha (cell_later hb (unhide HE).2.2)
        clear hb ha
        go_wp2
        exact bodyPost_ret (v := .bool false) (by simp [results, Try.results57, go_sem]) rfl ⟨ret_bool (by simp [sigB]), by first | exact bal (unhide HB) _ | exact unhide HB⟩
      · by_cases hl1 : L = 1
        · subst hl1
          go_enter Try.func57, Try.ntmps57
          go_wp2_with fail
          rw [← unhide HX]
          refine (unhide HSG).mono ?_
          rintro e V ⟨rfl, hb⟩
          have HB := hide (btr (unhide HXB) hb)
          have ha := bal (brf V) (.cells #[.string gn, .int .i64 5, .int .i64 gw, .int .i64 gd, .bool gs, .string gi] 38)
          have e0 := cell_later ha (cell_later hb (unhide HE).1)
          have e1 := cell_later ha (cell_later hb (unhide HE).2.1)
          have e5 := cell_later ha (cell_later hb (unhide HE).2.2)
          clear hb ha
          go_wp2
          exact bodyPost_ret (v := .bool (width == gw)) (by simp [results, Try.results57, go_sem]) rfl ⟨ret_bool (by simp [sigB]; rfl), by first | exact bal (unhide HB) _ | exact unhide HB⟩
        · have bl : ((L : Int) == 1) = false := beq_eq_false_iff_ne.2 (by omega)
          go_enter Try.func57, Try.ntmps57
          go_wp2_with fail
          rw [← unhide HX]
          refine (unhide HSG).mono ?_
          rintro e V ⟨rfl, hb⟩
          have HB := hide (btr (unhide HXB) hb)
          have ha := bal (brf V) (.cells #[.string gn, .int .i64 5, .int .i64 gw, .int .i64 gd, .bool gs, .string gi] 38)
          have e0 := cell_later ha (cell_later hb (unhide HE).1)
          have e1 := cell_later ha (cell_later hb (unhide HE).2.1)
          have e5 := cell_later ha (cell_later hb (unhide HE).2.2)
          clear hb ha
          go_wp2
          exact bodyPost_ret (v := .bool false) (by simp [results, Try.results57, go_sem]) rfl ⟨ret_bool (by simp [sigB, hl1]), by first | exact bal (unhide HB) _ | exact unhide HB⟩
      · skip
        go_enter Try.func57, Try.ntmps57
        go_wp2_with fail
        rw [← unhide HX]
        refine (unhide HSG).mono ?_
        rintro e V ⟨rfl, hb⟩
        have HB := hide (btr (unhide HXB) hb)
        have ha := bal (brf V) (.cells #[.string gn, .int .i64 5, .int .i64 gw, .int .i64 gd, .bool gs, .string gi] 38)
        have e0 := cell_later ha (cell_later hb (unhide HE).1)
        have e1 := cell_later ha (cell_later hb (unhide HE).2.1)
        have e5 := cell_later ha (cell_later hb (unhide HE).2.2)
        clear hb ha
        go_wp2
        exact bodyPost_ret (v := .bool false) (by simp [results, Try.results57, go_sem]) rfl ⟨ret_bool (by simp [sigB]), by first | exact bal (unhide HB) _ | exact unhide HB⟩
    · have b5 : (gk == 5) = false := beq_eq_false_iff_ne.2 h5
      rcases hop with rfl | rfl | rfl
      · by_cases hl1 : L = 0
        · subst hl1
          go_enter Try.func57, Try.ntmps57
          go_wp2_with fail
          rw [← unhide HX]
          refine (unhide HSG).mono ?_
          rintro e V ⟨rfl, hb⟩
          have HB := hide (btr (unhide HXB) hb)
          have ha := bal (brf V) (.cells #[.string gn, .int .i64 gk, .int .i64 gw, .int .i64 gd, .bool gs, .string gi] 38)
          have e0 := cell_later ha (cell_later hb (unhide HE).1)
          have e1 := cell_later ha (cell_later hb (unhide HE).2.1)
          have e5 := cell_later ha (cell_later hb (unhide HE).2.2)
          clear hb ha
          go_wp2
          exact bodyPost_ret (v := .bool (width == gw)) (by simp [results, Try.results57, go_sem]) rfl ⟨ret_bool (by simp [sigB, h5]; rfl), by first | exact bal (unhide HB) _ | exact unhide HB⟩
        · have bl : ((L : Int) == 0) = false := beq_eq_false_iff_ne.2 (by omega)
          go_enter Try.func57, Try.ntmps57
          go_wp2_with fail
          rw [← unhide HX]
          refine (unhide HSG).mono ?_
          rintro e V ⟨rfl, hb⟩
          have HB := hide (btr (unhide HXB) hb)
          have ha := bal (brf V) (.cells #[.string gn, .int .i64 gk, .int .i64 gw, .int .i64 gd, .bool gs, .string gi] 38)
          have e0 := cell_later ha (cell_later hb (unhide HE).1)
          have e1 := cell_later ha (cell_later hb (unhide HE).2.1)
          have e5 := cell_later ha (cell_later hb (unhide HE).2.2)
          clear hb ha
          go_wp2
          exact bodyPost_ret (v := .bool false) (by simp [results, Try.results57, go_sem]) rfl ⟨ret_bool (by simp [sigB, hl1]), by first | exact bal (unhide HB) _ | exact unhide HB⟩
      · skip
        go_enter Try.func57, Try.ntmps57
        go_wp2_with fail
        rw [← unhide HX]
        refine (unhide HSG).mono ?_
        rintro e V ⟨rfl, hb⟩
        have HB := hide (btr (unhide HXB) hb)
        have ha := bal (brf V) (.cells #[.string gn, .int .i64 gk, .int .i64 gw, .int .i64 gd, .bool gs, .string gi] 38)
        have e0 := cell_later ha (cell_later hb (unhide HE).1)
        have e1 := cell_later ha (cell_later hb (unhide HE).2.1)
        have e5 := cell_later ha (cell_later hb (unhide HE).2.2)
        clear hb ha
        go_wp2
        exact bodyPost_ret (v := .bool false) (by simp [results, Try.results57, go_sem]) rfl ⟨ret_bool (by simp [sigB, h5]), by first | exact bal (unhide HB) _ | exact unhide HB⟩
      · by_cases hl1 : L = 1
        · subst hl1
          go_enter Try.func57, Try.ntmps57
          go_wp2_with fail
          rw [← unhide HX]
          refine (unhide HSG).mono ?_
          rintro e V ⟨rfl, hb⟩
          have HB := hide (btr (unhide HXB) hb)
          have ha := bal (brf V) (.cells #[.string gn, .int .i64 gk, .int .i64 gw, .int .i64 gd, .bool gs, .string gi] 38)
          have e0 := cell_later ha (cell_later hb (unhide HE).1)
          have e1 := cell_later ha (cell_later hb (unhide HE).2.1)
          have e5 := cell_later ha (cell_later hb (unhide HE).2.2)
          clear hb ha
          go_wp2
          exact bodyPost_ret (v := .bool (width == 1)) (by simp [results, Try.results57, go_sem]) rfl ⟨ret_bool (by simp [sigB, h5]; rfl), by first | exact bal (unhide HB) _ | exact unhide HB⟩
        · have bl : ((L : Int) == 1) = false := beq_eq_false_iff_ne.2 (by omega)
          go_enter Try.func57, Try.ntmps57
          go_wp2_with fail
          rw [← unhide HX]
          refine (unhide HSG).mono ?_
          rintro e V ⟨rfl, hb⟩
          have HB := hide (btr (unhide HXB) hb)
          have ha := bal (brf V) (.cells #[.string gn, .int .i64 gk, .int .i64 gw, .int .i64 gd, .bool gs, .string gi] 38)
          have e0 := cell_later ha (cell_later hb (unhide HE).1)
          have e1 := cell_later ha (cell_later hb (unhide HE).2.1)
          have e5 := cell_later ha (cell_later hb (unhide HE).2.2)
          clear hb ha
          go_wp2
          exact bodyPost_ret (v := .bool false) (by simp [results, Try.results57, go_sem]) rfl ⟨ret_bool (by simp [sigB, hl1]), by first | exact bal (unhide HB) _ | exact unhide HB⟩
end Go.Proofs.Ytgkfhaahcedbpaa
