/- The specification's l06Names. -/
import Derived.Test.YtkmpjoiefcjbnaaDoorNFA
import Derived.BigQuiet
namespace Go.Proofs.YtkmpjoiefcjbnaaDoor
open Go.RowKit Gs
set_option linter.unusedVariables false
set_option maxRecDepth 100000
theorem bdn' {w w' : World} {n : Nat} (h : Below w.heap.size w w') : Below w.heap.size w (w'.drewN n) := below_drewN h n
theorem toList_ne {a b : ByteArray} (h : a ≠ b) : (a.toList == b.toList) = false := by
  rw [beq_eq_false_iff_ne]
  intro e
  rw [ByteArray.toList_eq, ByteArray.toList_eq] at e
  exact h (L_inj e)
set_option maxHeartbeats 4000000 in
theorem sNames (ss : List ByteArray) (v : Value) (w : World) (hl : ss.length ≤ 1048576) (hr : RS 1 RStr w 0 ss v) :
    Calls Tryd.prog 44 #[v] w fun e w' => e = .returned (.bool (namesB ss)) ∧ Below w.heap.size w w' := by
  rcases hr.open with ⟨rfl, a, c, rfl⟩ | ⟨b, o, c, rfl, hc, hn, _, hcs⟩
  · clear hr
    go_enter Tryd.func44, Tryd.ntmps44
    go_wp2
    refine wp_loop_rounds 1 ?_
    rw [rounds_succ]
    go_wp2
    go_ret
    exact ⟨rfl, brf _⟩
  · unfold maxLen at hn
    have HC := hide hcs
    clear hcs hr
    go_enter Tryd.func44, Tryd.ntmps44
    go_wp2
    go_loopw [3] (fun i wr => ∃ k : Nat, k ≤ ss.length ∧ i = .int .i64 k ∧ (ss.take k).all nmOK = true ∧ (ss.take k).Nodup ∧ Below w.heap.size w wr) (fun i _ => ss.length - (intOf i).toNat)
    case atStart => exact ⟨0, Nat.zero_le _, rfl, rfl, by simp, brf _⟩
    case round =>
      obtain ⟨k, hk, rfl, hall, hnd, hb⟩ := hrel
      by_cases hlt : k < ss.length
      · have hx : ss[k]? = some ss[k] := List.getElem?_eq_getElem hlt
        have hmem : ss[k] ∈ ss := List.getElem_mem hlt
        generalize ss[k] = s at hx hmem
        have hst : (ss.take (k + 1)).all nmOK = ((ss.take k).all nmOK && nmOK s) := by
          rw [List.take_add_one, hx, List.all_append]; simp
        obtain ⟨u, hul, hat, hus, hsz⟩ := unhide HC k s hx
        subst hus
        have k0 := cell_later hb (hat.get (j := 0) rfl)
        simp only [Nat.add_zero, Nat.mul_one] at k0
        unfold maxLen at hsz
        by_cases h1 : (s.size : Int) < 1
        · have hs : nmOK s = false := by unfold nmOK; rw [decide_eq_false (by omega)]; rfl
          have HE := hide (show false = namesB ss from by
            unfold namesB
            rw [show ss.all nmOK = false from by rw [← Bool.not_eq_true]; intro h; rw [List.all_eq_true.1 h s hmem] at hs; cases hs]
            rfl)
          have HB := hide hb
          clear hat hul HC hst hx hmem hb hall hnd hs
          go_wp2
          go_ret
          exact ⟨ret_bool (unhide HE), unhide HB⟩
        by_cases h2 : (1000 : Int) < (s.size : Int)
        · have hs : nmOK s = false := by unfold nmOK; rw [decide_eq_false (p := s.size ≤ 1000) (by omega), Bool.and_false]
          have HE := hide (show false = namesB ss from by
            unfold namesB
            rw [show ss.all nmOK = false from by rw [← Bool.not_eq_true]; intro h; rw [List.all_eq_true.1 h s hmem] at hs; cases hs]
            rfl)
          have HB := hide hb
          clear hat hul HC hst hx hmem hb hall hnd hs
          go_wp2
          go_ret
          exact ⟨ret_bool (unhide HE), unhide HB⟩
        have hs : nmOK s = true := by unfold nmOK; rw [decide_eq_true (p := s.size ≤ 1000) (by omega), decide_eq_true (p := 1 ≤ s.size) (by omega)]; rfl
        have HST := hide (show (ss.take (k + 1)).all nmOK = true from by rw [hst, hall, hs]; rfl)
        have HX := hide hx
        have HB := hide hb
        have HND := hide hnd
        have g1 : (1 : Int) ≤ (s.size : Int) := by omega
        have g2 : (s.size : Int) ≤ 1000 := by omega
        clear hst hall hs hat hul hb hnd hx hmem h1 h2
        go_wp2
        go_loopw [4] (fun i wr => ∃ p : Nat, p ≤ k ∧ i = .int .i64 p ∧ s ∉ ss.take p ∧ Below w.heap.size w wr) (fun i _ => k - (intOf i).toNat)
        case atStart => exact ⟨0, Nat.zero_le _, rfl, by simp, unhide HB⟩
        case round =>
          clear k0 HB
          obtain ⟨p, hp, rfl, hni, hb⟩ := hrel
          obtain ⟨u, hul, hat, hus, _⟩ := unhide HC k s (unhide HX)
          subst hus
          have k0 := cell_later hb (hat.get (j := 0) rfl)
          simp only [Nat.add_zero, Nat.mul_one] at k0
          by_cases hpk : p < k
          · have hx : ss[p]? = some ss[p] := List.getElem?_eq_getElem (by omega)
            generalize ss[p] = t at hx
            obtain ⟨u, _, hat2, hus, _⟩ := unhide HC p t hx
            subst hus
            have m0 := cell_later hb (hat2.get (j := 0) rfl)
            simp only [Nat.add_zero, Nat.mul_one] at m0
            have HB := hide hb
            by_cases he : t = s
            · have HE := hide (show false = namesB ss from by
                unfold namesB
                rw [decide_eq_false (p := ss.Nodup) (fun h => by
                  have h3 := (List.getElem?_inj (by omega) h (i := p) (j := k)).1 (by rw [hx, unhide HX, he])
                  omega), Bool.and_false])
              subst he
              clear hat hul hat2 hb hni hx HC HX
              have i1 : (0 : Int) ≤ (p : Int) := by omega
              have i2 : (p : Int) < (ss.length : Int) := by omega
              have i3 : (0 : Int) ≤ (k : Int) := by omega
              have i4 : (k : Int) < (ss.length : Int) := by omega
              go_wp2
              go_quiet (fail)
              go_wp2
              go_ret
              exact ⟨ret_bool (unhide HE), bdn' (unhide HB)⟩
            · have HN := hide (show s ∉ ss.take (p + 1) from by
                rw [List.take_add_one, hx]
                simp only [Option.toList_some, List.mem_append, List.mem_singleton, not_or]
                exact ⟨hni, fun h => he h.symm⟩)
              have q := toList_ne he
              clear hat hul hat2 hb hni hx HC HX he
              have i1 : (0 : Int) ≤ (p : Int) := by omega
              have i2 : (p : Int) < (ss.length : Int) := by omega
              have i3 : (0 : Int) ≤ (k : Int) := by omega
              have i4 : (k : Int) < (ss.length : Int) := by omega
              go_wp2
              go_quiet (fail)
              go_wp2
              exact ⟨⟨p + 1, by omega, by go_num, unhide HN, bdn' (unhide HB)⟩, by simp [intOf]; omega⟩
          · obtain rfl : p = k := by omega
            have HB := hide hb
            have HN := hide (show (ss.take (p + 1)).Nodup from by
              rw [List.take_add_one, unhide HX]
              simp only [Option.toList_some, List.nodup_append, List.nodup_cons, List.not_mem_nil, not_false_eq_true, List.nodup_nil, and_true, true_and, List.mem_singleton]
              refine ⟨unhide HND, fun a ha b hb hab => ?_⟩
              subst hb hab
              exact hni ha)
            clear hni hb hat hul HC
            go_wp2
            go_roundw
            case rel => exact ⟨p + 1, by omega, by go_num, unhide HST, unhide HN, unhide HB⟩
            case measure => simp [intOf]; omega
      · obtain rfl : k = ss.length := by omega
        rw [List.take_of_length_le (Nat.le_refl _)] at hall hnd
        have HE := hide (show true = namesB ss from by unfold namesB; rw [hall, decide_eq_true hnd]; rfl)
        have HB := hide hb
        clear hall hnd hb HC
        go_wp2
        go_ret
        exact ⟨ret_bool (unhide HE), unhide HB⟩
end Go.Proofs.YtkmpjoiefcjbnaaDoor
