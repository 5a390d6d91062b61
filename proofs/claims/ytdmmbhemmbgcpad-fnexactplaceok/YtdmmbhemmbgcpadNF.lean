/- namesFit of a list of names; regNames; namesFit of a netlist. -/
import Derived.Test.YtdmmbhemmbgcpadAN
import Derived.Test.YtdmmbhemmbgcpadLO
import Derived.Test.YtdmmbhemmbgcpadGM2
namespace Go.Proofs.Ytdmmbhemmbgcpad
open Go.RowKit Gs
set_option linter.unusedVariables false
set_option maxRecDepth 100000
def nmOK (s : ByteArray) : Bool := decide (1 ≤ s.size) && decide (s.size ≤ 1000)
def namesB (ss : List ByteArray) : Bool := ss.all nmOK && decide ss.Nodup
set_option maxHeartbeats 1600000 in
theorem iNamesFit (ss : List ByteArray) (v : Value) (w : World) (hl : ss.length ≤ 2097152) (hr : RS 1 RStr w 0 ss v) :
    Calls Try.prog 55 #[v] w fun e w' => e = .returned (.bool (namesB ss)) ∧ Below w.heap.size w w' := by
  have AN := hide (fun W (h : RS 1 RStr W 0 ss v) => iAllNew ss v W hl h)
  have HR := hide hr
  rcases hr.open with ⟨rfl, a, c, rfl⟩ | ⟨b, o, c, rfl, hc, hn, _, hcs⟩
  · clear hr
    go_enter Try.func55, Try.ntmps55
    go_wp2
    refine wp_loop_rounds 1 ?_
    rw [rounds_succ]
    go_wp2_with (first | (go_at_call 63; refine (unhide AN _ (unhide HR)).mono ?_; rintro e W1 ⟨rfl, hb1⟩; have HB := hide hb1; clear hb1))
    exact bodyPost_ret (v := .bool (decide (List.Nodup ([] : List ByteArray)))) (by simp [results, Try.results55, go_sem]) rfl ⟨by simp [namesB], unhide HB⟩
  · unfold maxLen at hn
    have HC := hide hcs
    clear hcs hr
    go_enter Try.func55, Try.ntmps55
    go_wp2
    go_loop [7] (fun i => ∃ k : Nat, k ≤ ss.length ∧ i = .int .i64 k ∧ (ss.take k).all nmOK = true) (fun i => ss.length - (intOf i).toNat)
    case atStart => exact ⟨0, Nat.zero_le _, rfl, rfl⟩
    case round =>
      obtain ⟨k, hk, rfl, hall⟩ := hrel
      have HA := hide hall
      clear hall
      by_cases hlt : k < ss.length
      · have hx : ss[k]? = some ss[k] := List.getElem?_eq_getElem hlt
        have hmem : ss[k] ∈ ss := List.getElem_mem hlt
        generalize ss[k] = s at hx hmem
        have hst : (ss.take (k + 1)).all nmOK = ((ss.take k).all nmOK && nmOK s) := by
          rw [List.take_add_one, hx, List.all_append]; simp
        obtain ⟨u, hul, hat, hus, hsz⟩ := unhide HC k s hx
        subst hus
        have k0 := hat.get (j := 0) rfl
        simp only [Nat.add_zero, Nat.mul_one] at k0
        have HST := hide hst
        have HX := hide hmem
        clear hat hul HC hst hx hmem
        cases hs : nmOK s
        · go_wp2_with (first | (go_at_call 62; refine (iNameFits s _ hsz).mono ?_; rintro e W1 ⟨rfl, rfl⟩; rw [show (decide (1 ≤ s.size) && decide (s.size ≤ 1000)) = false from hs]))
          refine bodyPost_ret (v := .bool false) (by simp [results, Try.results55, go_sem]) rfl ⟨ret_bool ?_, brf _⟩
          unfold namesB
          rw [show ss.all nmOK = false from by rw [← Bool.not_eq_true]; intro h; rw [List.all_eq_true.1 h s (unhide HX)] at hs; cases hs]
          rfl
        · go_wp2_with (first | (go_at_call 62; refine (iNameFits s _ hsz).mono ?_; rintro e W1 ⟨rfl, rfl⟩; rw [show (decide (1 ≤ s.size) && decide (s.size ≤ 1000)) = true from hs]))
          go_round
          case rel => exact ⟨k + 1, by omega, by go_num, by rw [unhide HST, unhide HA, hs]; rfl⟩
          case measure => simp [intOf]; omega
      · obtain rfl : k = ss.length := by omega
        clear HC
        go_wp2_with (first | (go_at_call 63; refine (unhide AN _ (unhide HR)).mono ?_; rintro e W1 ⟨rfl, hb1⟩; have HB := hide hb1; clear hb1))
        refine bodyPost_ret (v := .bool (decide ss.Nodup)) (by simp [results, Try.results55, go_sem]) rfl ⟨ret_bool ?_, unhide HB⟩
        have h := unhide HA
        rw [List.take_of_length_le (Nat.le_refl _)] at h
        simp [namesB, h]
end Go.Proofs.Ytdmmbhemmbgcpad
