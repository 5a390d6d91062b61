/- The program's textsFit; the states and the inputs that it gives to loops. -/
import Derived.Test.YtjbbjgoofenkpaaF1
import Derived.Test.YtjbbjgoofenkpaaBR
import Derived.RangeFuncNested
import Derived.Shelf.RegionOpen
import Derived.WalkKit
import Derived.OwnWalkIn
import Derived.TacticsInMore
import Derived.LoopNIn
import Derived.LoopIn
namespace Go.Proofs.Ytjbbjgoofenkpaa
open Go.RowKit Gs
set_option linter.unusedVariables false
set_option linter.unusedSimpArgs false
set_option maxRecDepth 100000
/-- A state's text. -/
def txtB (s : ByteArray) : Bool := knownS s || s.toList.isEmpty
theorem iKnownX (s : ByteArray) (w : World) (hs : s.size ≤ maxLen) : Calls Try.prog 38 #[.string s] w fun e w' => (∃ n a b : Int, e = .returned (.tuple #[.agg #[.int .i64 n, .int .u64 a, .int .u64 b], .bool (knownS s)]) ∧ (knownS s = true → n = s.size)) ∧ Below w.heap.size w w' := by
  refine (iKnown s w hs).mono ?_
  rintro e w' ⟨⟨n, k, h, rfl, hn⟩, hb⟩
  exact ⟨⟨_, _, _, rfl, fun hk => by rw [hn hk]⟩, hb⟩
set_option maxHeartbeats 8000000 in
theorem iTexts (f : Fsm) (v0 v1 v3 v4 : Value) (v2 : Value) (w : World) (h : RS 1 RStr w 0 f.states v2) (hl : f.states.length ≤ 64) :
    Calls Try.prog 34 #[.agg #[v0, v1, v2, v3, v4]] w fun e w' => e = .returned (.bool (f.states.all txtB && decide f.states.Nodup)) ∧ Below w.heap.size w w' := by
  have AN := hide (fun (V : World) (hb : Below w.heap.size w V) => iAllNew f.states v2 V (by omega) (h.later RStr.keeps hb))
  have HS := hide h
  obtain ⟨a, c, rfl⟩ := h.slice
  clear h
  go_enter Try.func34, Try.ntmps34
  go_wp2
  go_loopw [10] (fun i wr => ∃ k : Nat, k ≤ f.states.length ∧ i = .int .i64 k ∧ (f.states.take k).all txtB = true ∧ Bt 31 w #[v0, v1, .slice a f.states.length c, v3, v4] wr) (fun i _ => f.states.length - (intOf i).toNat)
  case atStart => exact ⟨0, Nat.zero_le _, rfl, rfl, Bt.refl _ _ _⟩
  case round =>
    obtain ⟨k, hk, rfl, hall, hbx⟩ := hrel
    obtain ⟨q0, q1, q2, q3, q4⟩ := hbx.get5
    have HX := hide hbx
    by_cases hlt : k < f.states.length
    · have hx : f.states[k]? = some f.states[k] := List.getElem?_eq_getElem hlt
      rcases (unhide HS).open with ⟨hnil, _⟩ | ⟨b, o, cc, ee, _, _, _, hcs⟩
      · rw [hnil] at hlt; simp at hlt
      obtain ⟨rfl, rfl⟩ : a = some ⟨b, o, none⟩ ∧ c = cc := by
        injection ee with e1 e2 e3
        exact ⟨e1, e3⟩
      have htk : (f.states.take (k + 1)).all txtB = txtB f.states[k] := by
        rw [List.take_add_one, hx, List.all_append, hall]; simp
      have hno : txtB f.states[k] = false → f.states.all txtB = false := fun h => by
        rw [List.all_eq_false]; exact ⟨_, List.getElem_mem hlt, by rw [h]; simp⟩
      generalize f.states[k] = x at hx htk hno
      obtain ⟨u, _, hat, hu, hxs⟩ := hcs k _ hx
      subst hu
      have m0 := cell_later hbx.below (hat.get (j := 0) rfl)
      simp only [Nat.add_zero, Nat.mul_one] at m0
      have i1 : (k : Int) < (f.states.length : Int) := by omega
      have KV := hide (fun V => iKnownX x V hxs)
      have HTK := hide htk
      have HNO := hide hno
      clear hat hcs hx ee AN HS hbx htk hno hall
      cases hkn : knownS x
      · rw [hkn] at KV
        cases he : x.toList.isEmpty
        · have HF := hide (unhide HNO (by unfold txtB; rw [hkn, he]; rfl))
          go_wp2_with (go_at_call 38; refine (unhide KV _).mono ?_; rintro e V1 ⟨⟨n, kk, hh, rfl, _⟩, hb1⟩; have HX1 := hide ((unhide HX).then hb1); clear hb1)
          refine bodyPost_ret (v := .bool false) (by simp [results, Try.results34, go_sem]) rfl ⟨by rw [unhide HF]; rfl, bal (unhide HX1).below _⟩
        · have HF := hide (show (f.states.take (k + 1)).all txtB = true by rw [unhide HTK]; unfold txtB; rw [hkn, he]; rfl)
          go_wp2_with (go_at_call 38; refine (unhide KV _).mono ?_; rintro e V1 ⟨⟨n, kk, hh, rfl, _⟩, hb1⟩; have HX1 := hide ((unhide HX).then hb1); clear hb1)
          exact ⟨⟨k + 1, by omega, by go_num, unhide HF, (unhide HX1).alloc _⟩, by simp [intOf]; omega⟩
      · rw [hkn] at KV
        have HF := hide (show (f.states.take (k + 1)).all txtB = true by rw [unhide HTK]; unfold txtB; rw [hkn]; rfl)
        go_wp2_with (go_at_call 38; refine (unhide KV _).mono ?_; rintro e V1 ⟨⟨n, kk, hh, rfl, _⟩, hb1⟩; have HX1 := hide ((unhide HX).then hb1); clear hb1)
        exact ⟨⟨k + 1, by omega, by go_num, unhide HF, (unhide HX1).alloc _⟩, by simp [intOf]; omega⟩
    · have hkl : k = f.states.length := by omega
      subst hkl
      rw [List.take_length] at hall
      have HA := hide hall
      have AW := hide (unhide AN wr hbx.below)
      clear hbx hall AN HS
      go_wp2_with (go_at_call 39; refine (unhide AW).mono ?_; rintro e V1 ⟨rfl, hb1⟩; have HX1 := hide ((unhide HX).then hb1); clear hb1)
      go_ret
      exact ⟨by rw [unhide HA, Bool.true_and]; rfl, (unhide HX1).below⟩
end Go.Proofs.Ytjbbjgoofenkpaa
