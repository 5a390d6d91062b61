/- The law FnExactBitsOK's walk. -/
import Derived.Test.YtmbllgblbdfobaaS1
import Derived.Test.YtmbllgblbdfobaaI1
namespace Go.Proofs.Ytmbllgblbdfobaa
open Go.RowKit

set_option maxHeartbeats 400000 in
theorem iBitsOK (s : ByteArray) (w : World) (hs : s.size ≤ maxLen) :
    Calls Try.prog 36 #[.string s] w fun e w' => e = .returned (.bool (Vb.okV (L s))) ∧ Below w.heap.size w w' := by
  cases hv : Vb.okV (L s)
  · have HV := hide hv
    clear hv
    go_enter Try.func36, Try.ntmps36
    go_wp2_with fail
    refine (iVecOf_no s _ hs (unhide HV)).mono ?_
    rintro e w' ⟨rfl, hb⟩
    unfold V
    go_wp2
    go_ret
    exact ⟨rfl, bal hb _⟩
  · have HV := hide hv
    clear hv
    go_enter Try.func36, Try.ntmps36
    go_wp2_with fail
    refine (iVecOf s _ hs (unhide HV)).mono ?_
    rintro e w' ⟨rfl, hb⟩
    unfold V
    go_wp2
    go_ret
    exact ⟨rfl, bal hb _⟩

set_option maxHeartbeats 400000 in
theorem lBitsOK (s : ByteArray) (w : World) (hs : s.size ≤ maxLen) :
    Calls Try.prog 6 #[.string s] w fun e w' => e = .returned (.bool true) ∧ Below w.heap.size w w' := by
  by_cases h : 1048576 < (s.size : Int)
  · go_enter Try.func6, Try.ntmps6
    go_wp2
    go_ret
    exact ⟨rfl, Below.refl _ _⟩
  · go_enter Try.func6, Try.ntmps6
    go_wp2_with fail
    refine (sBitsOK s _ hs).mono ?_
    rintro e w' ⟨rfl, rfl⟩
    go_wp2_with fail
    refine (iBitsOK s _ hs).mono ?_
    rintro e w' ⟨rfl, hb⟩
    go_wp2
    go_ret
    exact ⟨rfl, hb⟩
end Go.Proofs.Ytmbllgblbdfobaa
