/- The program's look at a flat design: what sets a signal. -/
import Derived.Test.YtgkfhaahcedbpaaP5
namespace Go.Proofs.Ytgkfhaahcedbpaa
open Go Go.RowKit Gs
set_option linter.unusedVariables false
set_option linter.unusedSimpArgs false
set_option maxRecDepth 100000
set_option maxHeartbeats 16000000
def setF (g : Signal) (low wide : Int) (kw : List Int) : Bool :=
  match kw with
  | [] => false
  | a :: r => decide (a = wide) && (if 2 < (a :: r).length then false else if g.kind = 5 then decide ((a :: r).length = 2) && (decide (low = 0) && decide (wide = g.width)) else if (a :: r).length = 2 then decide (low = 0) && decide (wide = 1) else decide (0 ≤ low) && decide (low ≤ wrap64 (g.width - wide)))
def setB (sg : List Signal) (tg : Nat) (n low wide : Int) (kw : List Int) : Bool :=
  match sigAt sg n with
  | none => false
  | some g => inSet tg g.kind && setF g low wide kw
theorem iSetFits (sg : List Signal) (tg : Nat) (htg : tg < 2 ^ 48) (kind n low wide : Int) (kw : List Int) (ka kb : Option Addr) (L L2 kc kc2 : Nat) (lb : Nat) (sv : Value) (W : World) (hsl : sg.length ≤ 1048576) (h0 : W.cell? ⟨lb, 0, none⟩ = some sv) (hsg : RS 6 RSignal W 0 sg sv) (hr : RS 6 RKid W 0 kw (.slice ka L kc)) :
    Calls Try.prog 41 #[.pointer (some ⟨lb, 0, none⟩), .agg #[.int .i64 kind, .int .i64 n, .int .i64 low, .int .i64 wide, .slice ka L kc, .slice kb L2 kc2], .int .u64 tg] W fun e W' => e = .returned (.bool (setB sg tg n low wide kw)) ∧ Below W.heap.size W W' := by
  have hlen : kw.length = L := by
    obtain ⟨a, c, e⟩ := hr.slice
    injection e with e1 e2 e3
    exact e2.symm
  have hL : L ≤ maxLen := by rw [← hlen]; exact hr.len
  unfold maxLen at hL
  obtain ⟨X, hX⟩ : ∃ X, X = W.alloc (.cells #[.int .i64 kind, .int .i64 n, .int .i64 low, .int .i64 wide, .slice ka L kc, .slice kb L2 kc2] 46) := ⟨_, rfl⟩
  have hb : Below W.heap.size W X := by rw [hX]; exact bal (brf W) _
  have HXB := hide hb
  have HSG := hide (iSignal sg lb sv n X hsl (cell_later hb h0) (hsg.later RSignal.keeps hb))
  have HK1 : Hid (∀ a r, kw = a :: r → ∃ b o, ka = some ⟨b, o, none⟩ ∧ X.cell? ⟨b, o + 1, none⟩ = some (.int .i64 a)) := hide (fun a r e => by
    obtain ⟨aa, c, e2, hk⟩ := kids_open hr
    obtain ⟨b, o, ho, k1, _⟩ := hk 0 a (by rw [e]; rfl)
    injection e2 with e3 _ _
    rw [Nat.zero_mul, Nat.add_zero] at k1
    exact ⟨b, o, e3.trans ho, cell_later hb k1⟩)
  have HE := hide (show X.cell? ⟨W.heap.size, 1, none⟩ = some (.int .i64 n) ∧ X.cell? ⟨W.heap.size, 2, none⟩ = some (.int .i64 low) ∧ X.cell? ⟨W.heap.size, 3, none⟩ = some (.int .i64 wide) ∧ X.cell? ⟨W.heap.size, 4, none⟩ = some (.slice ka L kc) from by
    refine ⟨?_, ?_, ?_, ?_⟩ <;> (rw [hX, World.cell?_alloc_new]; rfl))
  have HX := hide hX
  clear hb h0 hsg hX hr
  have EQ : setB sg tg n low wide kw = (match sigAt sg n with | none => false | some g => inSet tg g.kind && setF g low wide kw) := rfl
  cases hs : sigAt sg n with
  | none =>
    rw [EQ, hs]
    rw [hs] at HSG
    clear EQ hs HK1 hlen
    go_enter Try.func41, Try.ntmps41
    go_wp2_with fail
    rw [← unhide HX]
    refine (unhide HSG).mono ?_
    rintro e V ⟨rfl, hb⟩
    have ha := bal (brf V) (.cells #[.string { data := #[] }, .int .i64 0, .int .i64 0, .int .i64 0, .bool false, .string { data := #[] }] 38)
    have e1 := cell_later ha (cell_later hb (unhide HE).1)
    have e2 := cell_later ha (cell_later hb (unhide HE).2.1)
    have e3 := cell_later ha (cell_later hb (unhide HE).2.2.1)
    have e4 := cell_later ha (cell_later hb (unhide HE).2.2.2)
    have HB := hide (bal (btr (unhide HXB) hb) (.cells #[.string { data := #[] }, .int .i64 0, .int .i64 0, .int .i64 0, .bool false, .string { data := #[] }] 38))
    clear hb ha
    go_wp2_with fail
    go_quiet (fail)
    go_wp2_with fail
    exact bodyPost_ret (v := .bool false) (by simp [results, Try.results41, go_sem]) rfl ⟨rfl, bdn (unhide HB)⟩
  | some g =>
    rw [EQ, hs]
    rw [hs] at HSG
    clear EQ hs
    obtain ⟨gn, gk, gw, gd, gs, gi⟩ := g
    show Calls _ _ _ _ fun e W' => e = .returned (.bool (inSet tg gk && setF ⟨gn, gk, gw, gd, gs, gi⟩ low wide kw)) ∧ _
    have SA0 := fun w => iKHas tg gk w htg
    cases hin : inSet tg gk
    · have SA : ∀ w, Calls Try.prog 39 #[.int .u64 tg, .int .i64 gk] w fun e w' => e = .returned (.bool false) ∧ w' = w := fun w => by rw [← hin]; exact SA0 w
      clear SA0 HK1 hlen hin htg
      go_enter Try.func41, Try.ntmps41
      go_wp2_with fail
      rw [← unhide HX]
      refine (unhide HSG).mono ?_
      rintro e V ⟨rfl, hb⟩
      have ha := bal (brf V) (.cells #[.string gn, .int .i64 gk, .int .i64 gw, .int .i64 gd, .bool gs, .string gi] 38)
      have e1 := cell_later ha (cell_later hb (unhide HE).1)
      have e2 := cell_later ha (cell_later hb (unhide HE).2.1)
      have e3 := cell_later ha (cell_later hb (unhide HE).2.2.1)
      have e4 := cell_later ha (cell_later hb (unhide HE).2.2.2)
      have HB := hide (bal (btr (unhide HXB) hb) (.cells #[.string gn, .int .i64 gk, .int .i64 gw, .int .i64 gd, .bool gs, .string gi] 38))
      clear hb ha
      go_wp2_with fail
      go_quiet ((go_at_call 39; exact Calls.quiet_of_same (SA _)))
      go_wp2_with fail
      exact bodyPost_ret (v := .bool false) (by simp [results, Try.results41, go_sem]) rfl ⟨rfl, bdn (unhide HB)⟩
    have SA : ∀ w, Calls Try.prog 39 #[.int .u64 tg, .int .i64 gk] w fun e w' => e = .returned (.bool true) ∧ w' = w := fun w => by rw [← hin]; exact SA0 w
    clear SA0 hin htg
    rw [Bool.true_and]
    rcases kw with _ | ⟨a, r⟩
    · have hl0 : L = 0 := hlen.symm
      subst hl0
      clear HK1 hlen
      go_enter Try.func41, Try.ntmps41
      go_wp2_with fail
      rw [← unhide HX]
      refine (unhide HSG).mono ?_
      rintro e V ⟨rfl, hb⟩
      have ha := bal (brf V) (.cells #[.string gn, .int .i64 gk, .int .i64 gw, .int .i64 gd, .bool gs, .string gi] 38)
      have e1 := cell_later ha (cell_later hb (unhide HE).1)
      have e2 := cell_later ha (cell_later hb (unhide HE).2.1)
      have e3 := cell_later ha (cell_later hb (unhide HE).2.2.1)
      have e4 := cell_later ha (cell_later hb (unhide HE).2.2.2)
      have HB := hide (bal (btr (unhide HXB) hb) (.cells #[.string gn, .int .i64 gk, .int .i64 gw, .int .i64 gd, .bool gs, .string gi] 38))
      clear hb ha
      go_wp2_with fail
      go_quiet ((go_at_call 39; exact Calls.quiet_of_same (SA _)))
      go_wp2_with fail
      exact bodyPost_ret (v := .bool false) (by simp [results, Try.results41, go_sem]) rfl ⟨rfl, bdn (unhide HB)⟩
    · obtain ⟨b, o, rfl, k1⟩ := unhide HK1 a r rfl
      clear HK1
      have HK := hide k1
      clear k1
      by_cases haw : a = wide
      rotate_left
      · have e0 : setF ⟨gn, gk, gw, gd, gs, gi⟩ low wide (a :: r) = false := by simp [setF, haw]
        rw [e0]
        have n1 : (a != wide) = true := bne_iff_ne.2 haw
        have l0 : 1 ≤ L := by rw [← hlen]; simp
        have l1 : ¬ ((L : Int) < 1) := by omega
        have l2 : decide ((L : Int) < 1) = false := decide_eq_false l1
        have l3 : (0 : Int) < (L : Int) := by omega
        have l4 : decide ((0 : Int) < (L : Int)) = true := decide_eq_true l3
        have l5 : decide (0 < L) = true := decide_eq_true (by omega)
        have l6 : decide (L < 1) = false := decide_eq_false (by omega)
        have l7 : decide (L = 0) = false := decide_eq_false (by omega)
        have l8 : 0 < L := by omega
        clear hlen e0
        go_enter Try.func41, Try.ntmps41
        go_wp2_with fail
        rw [← unhide HX]
        refine (unhide HSG).mono ?_
        rintro e V ⟨rfl, hb⟩
        have ha := bal (brf V) (.cells #[.string gn, .int .i64 gk, .int .i64 gw, .int .i64 gd, .bool gs, .string gi] 38)
        have e1 := cell_later ha (cell_later hb (unhide HE).1)
        have e2 := cell_later ha (cell_later hb (unhide HE).2.1)
        have e3 := cell_later ha (cell_later hb (unhide HE).2.2.1)
        have e4 := cell_later ha (cell_later hb (unhide HE).2.2.2)
        have e9 := cell_later ha (cell_later hb (unhide HK))
        have HB := hide (bal (btr (unhide HXB) hb) (.cells #[.string gn, .int .i64 gk, .int .i64 gw, .int .i64 gd, .bool gs, .string gi] 38))
        clear hb ha
        go_wp2_with fail
        go_quiet ((go_at_call 39; exact Calls.quiet_of_same (SA _)))
        go_wp2_with fail
        exact bodyPost_ret (v := .bool false) (by simp [results, Try.results41, go_sem]) rfl ⟨rfl, bdn (unhide HB)⟩
      subst haw
      rcases r with _ | ⟨a2, _ | ⟨a3, r⟩⟩
      · have hl1 : L = 1 := hlen.symm
        subst hl1
        clear hlen
        by_cases h5 : gk = 5
        · subst h5
          go_enter Try.func41, Try.ntmps41
          go_wp2_with fail
          rw [← unhide HX]
          refine (unhide HSG).mono ?_
          rintro e V ⟨rfl, hb⟩
          have ha := bal (brf V) (.cells #[.string gn, .int .i64 5, .int .i64 gw, .int .i64 gd, .bool gs, .string gi] 38)
          have e1 := cell_later ha (cell_later hb (unhide HE).1)
          have e2 := cell_later ha (cell_later hb (unhide HE).2.1)
          have e3 := cell_later ha (cell_later hb (unhide HE).2.2.1)
          have e4 := cell_later ha (cell_later hb (unhide HE).2.2.2)
          have e9 := cell_later ha (cell_later hb (unhide HK))
          have HB := hide (bal (btr (unhide HXB) hb) (.cells #[.string gn, .int .i64 5, .int .i64 gw, .int .i64 gd, .bool gs, .string gi] 38))
          clear hb ha
          go_wp2_with fail
          go_quiet ((go_at_call 39; exact Calls.quiet_of_same (SA _)))
          go_wp2_with fail
          exact bodyPost_ret (v := .bool false) (by simp [results, Try.results41, go_sem]) rfl ⟨by simp [setF], bdn (unhide HB)⟩
        · have b5 : (gk == 5) = false := beq_eq_false_iff_ne.2 h5
          by_cases hlo : 0 ≤ low
          · have hlo2 : decide (0 ≤ low) = true := decide_eq_true hlo
            go_enter Try.func41, Try.ntmps41
            go_wp2_with fail
            rw [← unhide HX]
            refine (unhide HSG).mono ?_
            rintro e V ⟨rfl, hb⟩
            have ha := bal (brf V) (.cells #[.string gn, .int .i64 gk, .int .i64 gw, .int .i64 gd, .bool gs, .string gi] 38)
            have e1 := cell_later ha (cell_later hb (unhide HE).1)
            have e2 := cell_later ha (cell_later hb (unhide HE).2.1)
            have e3 := cell_later ha (cell_later hb (unhide HE).2.2.1)
            have e4 := cell_later ha (cell_later hb (unhide HE).2.2.2)
            have e9 := cell_later ha (cell_later hb (unhide HK))
            have HB := hide (bal (btr (unhide HXB) hb) (.cells #[.string gn, .int .i64 gk, .int .i64 gw, .int .i64 gd, .bool gs, .string gi] 38))
            clear hb ha
            go_wp2_with fail
            go_quiet ((go_at_call 39; exact Calls.quiet_of_same (SA _)))
            go_wp2_with fail
            exact bodyPost_ret (v := .bool (decide (low ≤ wrap64 (gw - a)))) (by simp [results, Try.results41, go_sem]) rfl ⟨by simp [setF, h5, hlo], bdn (unhide HB)⟩
          · have hlo2 : decide (0 ≤ low) = false := decide_eq_false hlo
            go_enter Try.func41, Try.ntmps41
            go_wp2_with fail
            rw [← unhide HX]
            refine (unhide HSG).mono ?_
            rintro e V ⟨rfl, hb⟩
            have ha := bal (brf V) (.cells #[.string gn, .int .i64 gk, .int .i64 gw, .int .i64 gd, .bool gs, .string gi] 38)
            have e1 := cell_later ha (cell_later hb (unhide HE).1)
            have e2 := cell_later ha (cell_later hb (unhide HE).2.1)
            have e3 := cell_later ha (cell_later hb (unhide HE).2.2.1)
            have e4 := cell_later ha (cell_later hb (unhide HE).2.2.2)
            have e9 := cell_later ha (cell_later hb (unhide HK))
            have HB := hide (bal (btr (unhide HXB) hb) (.cells #[.string gn, .int .i64 gk, .int .i64 gw, .int .i64 gd, .bool gs, .string gi] 38))
            clear hb ha
            go_wp2_with fail
            go_quiet ((go_at_call 39; exact Calls.quiet_of_same (SA _)))
            go_wp2_with fail
            exact bodyPost_ret (v := .bool false) (by simp [results, Try.results41, go_sem]) rfl ⟨by simp [setF, h5]; intro h; omega, bdn (unhide HB)⟩
      · have hl1 : L = 2 := hlen.symm
        subst hl1
        clear hlen
        by_cases h5 : gk = 5
        · subst h5
          by_cases hlo : low = 0
          · subst hlo
            go_enter Try.func41, Try.ntmps41
            go_wp2_with fail
            rw [← unhide HX]
            refine (unhide HSG).mono ?_
            rintro e V ⟨rfl, hb⟩
            have ha := bal (brf V) (.cells #[.string gn, .int .i64 5, .int .i64 gw, .int .i64 gd, .bool gs, .string gi] 38)
            have e1 := cell_later ha (cell_later hb (unhide HE).1)
            have e2 := cell_later ha (cell_later hb (unhide HE).2.1)
            have e3 := cell_later ha (cell_later hb (unhide HE).2.2.1)
            have e4 := cell_later ha (cell_later hb (unhide HE).2.2.2)
            have e9 := cell_later ha (cell_later hb (unhide HK))
            have HB := hide (bal (btr (unhide HXB) hb) (.cells #[.string gn, .int .i64 5, .int .i64 gw, .int .i64 gd, .bool gs, .string gi] 38))
            clear hb ha
            go_wp2_with fail
            go_quiet ((go_at_call 39; exact Calls.quiet_of_same (SA _)))
            go_wp2_with fail
            exact bodyPost_ret (v := .bool (a == gw)) (by simp [results, Try.results41, go_sem]) rfl ⟨by simp [setF]; rfl, bdn (unhide HB)⟩
          · have hlo2 : (low == 0) = false := beq_eq_false_iff_ne.2 hlo
            go_enter Try.func41, Try.ntmps41
            go_wp2_with fail
            rw [← unhide HX]
            refine (unhide HSG).mono ?_
            rintro e V ⟨rfl, hb⟩
            have ha := bal (brf V) (.cells #[.string gn, .int .i64 5, .int .i64 gw, .int .i64 gd, .bool gs, .string gi] 38)
            have e1 := cell_later ha (cell_later hb (unhide HE).1)
            have e2 := cell_later ha (cell_later hb (unhide HE).2.1)
            have e3 := cell_later ha (cell_later hb (unhide HE).2.2.1)
            have e4 := cell_later ha (cell_later hb (unhide HE).2.2.2)
            have e9 := cell_later ha (cell_later hb (unhide HK))
            have HB := hide (bal (btr (unhide HXB) hb) (.cells #[.string gn, .int .i64 5, .int .i64 gw, .int .i64 gd, .bool gs, .string gi] 38))
            clear hb ha
            go_wp2_with fail
            go_quiet ((go_at_call 39; exact Calls.quiet_of_same (SA _)))
            go_wp2_with fail
            exact bodyPost_ret (v := .bool false) (by simp [results, Try.results41, go_sem]) rfl ⟨by simp [setF, hlo], bdn (unhide HB)⟩
        · have b5 : (gk == 5) = false := beq_eq_false_iff_ne.2 h5
          by_cases hlo : low = 0
          · subst hlo
            go_enter Try.func41, Try.ntmps41
            go_wp2_with fail
            rw [← unhide HX]
            refine (unhide HSG).mono ?_
            rintro e V ⟨rfl, hb⟩
            have ha := bal (brf V) (.cells #[.string gn, .int .i64 gk, .int .i64 gw, .int .i64 gd, .bool gs, .string gi] 38)
            have e1 := cell_later ha (cell_later hb (unhide HE).1)
            have e2 := cell_later ha (cell_later hb (unhide HE).2.1)
            have e3 := cell_later ha (cell_later hb (unhide HE).2.2.1)
            have e4 := cell_later ha (cell_later hb (unhide HE).2.2.2)
            have e9 := cell_later ha (cell_later hb (unhide HK))
            have HB := hide (bal (btr (unhide HXB) hb) (.cells #[.string gn, .int .i64 gk, .int .i64 gw, .int .i64 gd, .bool gs, .string gi] 38))
            clear hb ha
            go_wp2_with fail
            go_quiet ((go_at_call 39; exact Calls.quiet_of_same (SA _)))
            go_wp2_with fail
            exact bodyPost_ret (v := .bool (a == 1)) (by simp [results, Try.results41, go_sem]) rfl ⟨by simp [setF, h5]; rfl, bdn (unhide HB)⟩
          · have hlo2 : (low == 0) = false := beq_eq_false_iff_ne.2 hlo
            go_enter Try.func41, Try.ntmps41
            go_wp2_with fail
            rw [← unhide HX]
            refine (unhide HSG).mono ?_
            rintro e V ⟨rfl, hb⟩
            have ha := bal (brf V) (.cells #[.string gn, .int .i64 gk, .int .i64 gw, .int .i64 gd, .bool gs, .string gi] 38)
            have e1 := cell_later ha (cell_later hb (unhide HE).1)
            have e2 := cell_later ha (cell_later hb (unhide HE).2.1)
            have e3 := cell_later ha (cell_later hb (unhide HE).2.2.1)
            have e4 := cell_later ha (cell_later hb (unhide HE).2.2.2)
            have e9 := cell_later ha (cell_later hb (unhide HK))
            have HB := hide (bal (btr (unhide HXB) hb) (.cells #[.string gn, .int .i64 gk, .int .i64 gw, .int .i64 gd, .bool gs, .string gi] 38))
            clear hb ha
            go_wp2_with fail
            go_quiet ((go_at_call 39; exact Calls.quiet_of_same (SA _)))
            go_wp2_with fail
            exact bodyPost_ret (v := .bool false) (by simp [results, Try.results41, go_sem]) rfl ⟨by simp [setF, h5, hlo], bdn (unhide HB)⟩
      · have e0 : setF ⟨gn, gk, gw, gd, gs, gi⟩ low a (a :: a2 :: a3 :: r) = false := by simp [setF]
        rw [e0]
        have l0 : 3 ≤ L := by rw [← hlen]; simp
        have l1 : ¬ ((L : Int) < 1) := by omega
        have l2 : decide ((L : Int) < 1) = false := decide_eq_false l1
        have l3 : (0 : Int) < (L : Int) := by omega
        have l4 : decide ((0 : Int) < (L : Int)) = true := decide_eq_true l3
        have l5 : decide (0 < L) = true := decide_eq_true (by omega)
        have l6 : decide (L < 1) = false := decide_eq_false (by omega)
        have l7 : decide (L = 0) = false := decide_eq_false (by omega)
        have l8 : 0 < L := by omega
        have l9 : (2 : Int) < (L : Int) := by omega
        have l10 : 2 < L := by omega
        clear hlen e0
        go_enter Try.func41, Try.ntmps41
        go_wp2_with fail
        rw [← unhide HX]
        refine (unhide HSG).mono ?_
        rintro e V ⟨rfl, hb⟩
        have ha := bal (brf V) (.cells #[.string gn, .int .i64 gk, .int .i64 gw, .int .i64 gd, .bool gs, .string gi] 38)
        have e1 := cell_later ha (cell_later hb (unhide HE).1)
        have e2 := cell_later ha (cell_later hb (unhide HE).2.1)
        have e3 := cell_later ha (cell_later hb (unhide HE).2.2.1)
        have e4 := cell_later ha (cell_later hb (unhide HE).2.2.2)
        have e9 := cell_later ha (cell_later hb (unhide HK))
        have HB := hide (bal (btr (unhide HXB) hb) (.cells #[.string gn, .int .i64 gk, .int .i64 gw, .int .i64 gd, .bool gs, .string gi] 38))
        clear hb ha
        go_wp2_with fail
        go_quiet ((go_at_call 39; exact Calls.quiet_of_same (SA _)))
        go_wp2_with fail
        exact bodyPost_ret (v := .bool false) (by simp [results, Try.results41, go_sem]) rfl ⟨rfl, bdn (unhide HB)⟩
end Go.Proofs.Ytgkfhaahcedbpaa
