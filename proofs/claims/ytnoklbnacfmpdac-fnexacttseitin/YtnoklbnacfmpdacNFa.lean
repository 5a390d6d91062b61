/- namesFit of a list of names; regNames; namesFit of a netlist. -/
import Derived.Test.YtnoklbnacfmpdacAN
import Derived.Test.YtnoklbnacfmpdacLO
import Derived.Test.YtnoklbnacfmpdacMa
import Derived.Deep.Upon
namespace Go.Proofs.Ytnoklbnacfmpdac
open Go.RowKit Gs
set_option linter.unusedVariables false
set_option maxRecDepth 100000
def nmOK (s : ByteArray) : Bool := decide (1 ≤ s.size) && decide (s.size ≤ 1000)
def namesB (ss : List ByteArray) : Bool := ss.all nmOK && decide ss.Nodup
set_option maxHeartbeats 1600000 in
theorem iNamesFit (ss : List ByteArray) (v : Value) (w : World) (hl : ss.length ≤ 2097152) (hr : RS 1 RStr w 0 ss v) :
    Calls Try.prog 54 #[v] w fun e w' => e = .returned (.bool (namesB ss)) ∧ Below w.heap.size w w' := by
  have AN := hide (fun W (h : RS 1 RStr W 0 ss v) => iAllNew ss v W hl h)
  have HR := hide hr
  rcases hr.open with ⟨rfl, a, c, rfl⟩ | ⟨b, o, c, rfl, hc, hn, _, hcs⟩
  · clear hr
    go_enter Try.func54, Try.ntmps54
    go_wp2
    refine wp_loop_rounds 1 ?_
    rw [rounds_succ]
    go_wp2_with (first | (go_at_call 70; refine (unhide AN _ (unhide HR)).mono ?_; rintro e W1 ⟨rfl, hb1⟩; have HB := hide hb1; clear hb1))
    exact bodyPost_ret (v := .bool (decide (List.Nodup ([] : List ByteArray)))) (by simp [results, Try.results54, go_sem]) rfl ⟨by simp [namesB], unhide HB⟩
  · unfold maxLen at hn
    have HC := hide hcs
    clear hcs hr
    go_enter Try.func54, Try.ntmps54
    go_wp2
    go_loop [7] (fun i => ∃ k : Nat, k ≤ ss.length ∧ i = .int .i64 k ∧ (ss.take k).all nmOK = true) (fun i => ss.length - (intOf i).toNat)
    case atStart => exact ⟨0, Nat.zero_le _, rfl, rfl⟩
    case round =>
      obtain ⟨k, hk, rfl, hall⟩ := hrel
      have HA := hide hall
      clear hall
      by_cases hlt : k < ss.length
      · have hx : ss[k]? = some ss[k] := List.getElem?_eq_getElem hlt
        have hmem : ss[k] ∈ ss := List.getElem_mem hlt
        generalize ss[k] = s at hx hmem
        have hst : (ss.take (k + 1)).all nmOK = ((ss.take k).all nmOK && nmOK s) := by
          rw [List.take_add_one, hx, List.all_append]; simp
        obtain ⟨u, hul, hat, hus, hsz⟩ := unhide HC k s hx
        subst hus
        have k0 := hat.get (j := 0) rfl
        simp only [Nat.add_zero, Nat.mul_one] at k0
        have HST := hide hst
        have HX := hide hmem
        clear hat hul HC hst hx hmem
        cases hs : nmOK s
        · go_wp2_with (first | (go_at_call 69; refine (iNameFits s _ hsz).mono ?_; rintro e W1 ⟨rfl, rfl⟩; rw [show (decide (1 ≤ s.size) && decide (s.size ≤ 1000)) = false from hs]))
          refine bodyPost_ret (v := .bool false) (by simp [results, Try.results54, go_sem]) rfl ⟨ret_bool ?_, brf _⟩
          unfold namesB
          rw [show ss.all nmOK = false from by rw [← Bool.not_eq_true]; intro h; rw [List.all_eq_true.1 h s (unhide HX)] at hs; cases hs]
          rfl
        · go_wp2_with (first | (go_at_call 69; refine (iNameFits s _ hsz).mono ?_; rintro e W1 ⟨rfl, rfl⟩; rw [show (decide (1 ≤ s.size) && decide (s.size ≤ 1000)) = true from hs]))
          go_round
          case rel => exact ⟨k + 1, by omega, by go_num, by rw [unhide HST, unhide HA, hs]; rfl⟩
          case measure => simp [intOf]; omega
      · obtain rfl : k = ss.length := by omega
        clear HC
        go_wp2_with (first | (go_at_call 70; refine (unhide AN _ (unhide HR)).mono ?_; rintro e W1 ⟨rfl, hb1⟩; have HB := hide hb1; clear hb1))
        refine bodyPost_ret (v := .bool (decide ss.Nodup)) (by simp [results, Try.results54, go_sem]) rfl ⟨ret_bool ?_, unhide HB⟩
        have h := unhide HA
        rw [List.take_of_length_le (Nat.le_refl _)] at h
        simp [namesB, h]
end Go.Proofs.Ytnoklbnacfmpdac
namespace Go.Proofs.Ytnoklbnacfmpdac
open Go.RowKit Gs
set_option linter.unusedVariables false
set_option maxRecDepth 100000
theorem strs_one (ys : List ByteArray) : ∀ u ∈ ys.map Value.string, u.oneCell' = true := by
  intro u hu
  obtain ⟨s, _, rfl⟩ := List.mem_map.1 hu
  rfl
/-- Strings are appended, whatever slice they lie in. -/
theorem wpAppS {ops : Array Oper} {rest : List Oper} {o : Oper} {a : Act} {Q : Exit → Act → World → Prop} {w : World} (hg : o.guard = none) (s x : Operand) (hop : o.op = Op.call { callee := Callee.builtin Builtin.append, args := #[s, x], argTypes := #[22, 22] })
    (B : Nat) (v : Value) (xs : List ByteArray) (hs : a.eval s = v) (hown : OS B w v xs) (xv : Value) (ys : List ByteArray) (hx : a.eval x = xv) (hr : RS 1 RStr w 0 ys xv) (hlen : xs.length + ys.length ≤ 4194304) (hB : B ≤ w.heap.size)
    (hK : ∀ v' w', OS B w' v' (xs ++ ys) → w.grownBy w' v.ownBlock → wpList Try.prog ops Q rest (a.put o.dst v') w') : wpList Try.prog ops Q (o :: rest) a w := by
  obtain ⟨i0, hi, hz0, hz1, hz2⟩ := info_parts info9
  rcases hr.open with ⟨rfl, ad, c, rfl⟩ | ⟨b, off, c, rfl, hc, hn, _, hcs⟩
  · obtain ⟨sa, sl, sc, rfl, hle⟩ : ∃ sa sl sc, v = .slice sa sl sc ∧ sl ≤ sc := by
      rcases hown.1.2 with ⟨rfl, _⟩ | ⟨g, cap, cur, rfl, _, _, h, _⟩
      · exact ⟨_, _, _, rfl, Nat.le_refl _⟩
      · exact ⟨_, _, _, rfl, h⟩
    have hS : Src Try.prog i0.size 22 (.slice ad 0 c) 0 [] w := by
      cases ad with
      | none => exact Src.ofNil w Try.underlying22 c
      | some ad => exact Src.ofSlice w Try.underlying22 ad 0 c [] (by simp) (fun j u h => by simp at h) (fun _ h => by cases h)
    have hrun := run_append_nothing (P := Try.prog) w 22 22 o.type 9 i0 Try.underlying22 hi sa sl sc hle _ hS
    refine wpList_plain hg fun K hK' => ?_
    unfold Oper.wp
    simp [execOp, hop, resolve, invoke, builtin, hs, hx, hrun, Result.andThen]
    exact hK' _ _ (hK _ w (by simpa using hown) (World.grownBy.refl _ _))
  · refine wpList_append_own _ hg s x 22 hop B 9 i0 (.string ByteArray.empty) 1 16 Try.underlying22 hi hz0 hz1 hz2 rfl (by decide) v xs.length (xs.map Value.string) hs hown.1 ⟨b, off, none⟩ ys.length c (ys.map Value.string) hx (by simp) ?_ (strs_one ys) (by unfold maxLen; omega) (by omega) hB ?_
    · intro j u hj
      rw [List.getElem?_map, Option.map_eq_some_iff] at hj
      obtain ⟨y, hy, rfl⟩ := hj
      obtain ⟨u, hul, hat, hu, _⟩ := hcs j y hy
      subst hu
      have := hat.get (j := 0) rfl
      rw [Addr.add_lit]
      simpa using this
    · intro v' w' ho hgr _
      refine hK v' w' ⟨?_, fun s hs => ?_⟩ hgr
      · rw [List.length_append, List.map_append]; exact ho
      · rcases List.mem_append.1 hs with h | h
        · exact hown.2 s h
        · obtain ⟨j, hj⟩ := List.getElem?_of_mem h
          obtain ⟨_, _, _, _, hb⟩ := hcs j s hj
          exact hb
theorem OS.any {B : Nat} {v : Value} {xs : List ByteArray} {W : World} (h : OS B W v xs) (hl : xs.length ≤ 4194304) : RS 1 RStr W 0 xs v := (h.read (by unfold maxLen; omega)).low RStr.lowers (Nat.zero_le _)
end Go.Proofs.Ytnoklbnacfmpdac
