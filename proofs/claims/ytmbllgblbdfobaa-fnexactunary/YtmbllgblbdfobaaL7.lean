/- The law FnExactUnary's walk: the program's Unary answers as the specification's. -/
import Derived.Test.YtmbllgblbdfobaaU6
namespace Go.Proofs.Ytmbllgblbdfobaa
open Go.RowKit
set_option maxHeartbeats 400000 in
theorem iUnary_no (op : Int) (s : ByteArray) (w : World) (hs : s.size ≤ maxLen) (hv : Vb.okV (L s) = false) :
    Calls Try.prog 21 #[.int .i64 op, .string s] w fun e w' => e = .returned (.string (S [])) ∧ Below w.heap.size w w' := by
  have HV := hide hv
  clear hv
  go_enter Try.func21, Try.ntmps21
  go_wp2_with fail
  refine (iVecOf_no s _ hs (unhide HV)).mono ?_
  rintro e w1 ⟨rfl, hb1⟩
  unfold V
  go_wp2
  go_ret
  exact ⟨rfl, bal hb1 _⟩
set_option maxHeartbeats 400000 in
theorem iUnary_op (op : Int) (s : ByteArray) (w : World) (hs : s.size ≤ maxLen) (hv : Vb.okV (L s) = true) (ho : op < 19 ∨ 24 < op) :
    Calls Try.prog 21 #[.int .i64 op, .string s] w fun e w' => e = .returned (.string (S [])) ∧ Below w.heap.size w w' := by
  have HV := hide hv
  clear hv
  rcases ho with ho | ho
  · go_enter Try.func21, Try.ntmps21
    go_wp2_with fail
    refine (iVecOf s _ hs (unhide HV)).mono ?_
    rintro e w1 ⟨rfl, hb1⟩
    unfold V
    go_wp2
    go_ret
    exact ⟨rfl, bal hb1 _⟩
  · have hd : decide (op < 19) = false := by simp; omega
    go_enter Try.func21, Try.ntmps21
    go_wp2_with fail
    refine (iVecOf s _ hs (unhide HV)).mono ?_
    rintro e w1 ⟨rfl, hb1⟩
    unfold V
    go_wp2
    go_ret
    exact ⟨rfl, bal hb1 _⟩
/-- What Unary answers. -/
def unTop (op : Int) (s : ByteArray) : ByteArray := if Vb.okV (L s) then S (unL op (L s)) else S []
theorem unTop_op {op : Int} {s : ByteArray} (h : op < 19 ∨ 24 < op) : unTop op s = S [] := by
  unfold unTop
  split
  · unfold unL; rw [if_neg (by omega), if_neg (by omega), if_neg (by omega), if_neg (by omega), if_neg (by omega), if_neg (by omega)]
  · rfl
theorem six {op : Int} (h : ¬ (op < 19 ∨ 24 < op)) : op = 19 ∨ op = 20 ∨ op = 21 ∨ op = 22 ∨ op = 23 ∨ op = 24 := by omega
theorem sUnaryT (op : Int) (s : ByteArray) (w : World) (hs : s.size ≤ maxLen) :
    Calls Try.prog 44 #[.int .i64 op, .string s] w fun e w' => e = .returned (.string (unTop op s)) ∧ Below w.heap.size w w' := by
  cases hv : Vb.okV (L s)
  · unfold unTop; rw [hv]; exact sUnary_no op s w hs hv
  · by_cases ho : op < 19 ∨ 24 < op
    · rw [unTop_op ho]; exact sUnary_op op s w hs hv ho
    · unfold unTop; rw [hv]
      rcases six ho with rfl | rfl | rfl | rfl | rfl | rfl
      · exact sUnary19 s w hs hv
      · exact sUnary20 s w hs hv
      · exact sUnary21 s w hs hv
      · exact sUnary22 s w hs hv
      · exact sUnary23 s w hs hv
      · exact sUnary24 s w hs hv
theorem iUnaryT (op : Int) (s : ByteArray) (w : World) (hs : s.size ≤ maxLen) :
    Calls Try.prog 21 #[.int .i64 op, .string s] w fun e w' => e = .returned (.string (unTop op s)) ∧ Below w.heap.size w w' := by
  cases hv : Vb.okV (L s)
  · unfold unTop; rw [hv]; exact iUnary_no op s w hs hv
  · by_cases ho : op < 19 ∨ 24 < op
    · rw [unTop_op ho]; exact iUnary_op op s w hs hv ho
    · unfold unTop; rw [hv]
      rcases six ho with rfl | rfl | rfl | rfl | rfl | rfl
      · exact iUnary19 s w hs hv
      · exact iUnary20 s w hs hv
      · exact iUnary21 s w hs hv
      · exact iUnary22 s w hs hv
      · exact iUnary23 s w hs hv
      · exact iUnary24 s w hs hv
set_option maxHeartbeats 400000 in
theorem lUnary (op : Int) (s : ByteArray) (w : World) (_hop : (Lit.int .i64 op).wf = true) (hs : s.size ≤ maxLen) :
    Calls Try.prog 14 #[.int .i64 op, .string s] w fun e w' => e = .returned (.bool true) ∧ Below w.heap.size w w' := by
  by_cases h : 1048576 < (s.size : Int)
  · go_enter Try.func14, Try.ntmps14
    go_wp2
    go_ret
    exact ⟨rfl, brf _⟩
  · go_enter Try.func14, Try.ntmps14
    go_wp2_with fail
    refine (sUnaryT op s _ hs).mono ?_
    rintro e w1 ⟨rfl, hb1⟩
    generalize hR : unTop op s = R
    have HR := hide hR
    clear hR
    go_wp2_with fail
    refine (iUnaryT op s _ hs).mono ?_
    rw [unhide HR]
    rintro e w2 ⟨rfl, hb2⟩
    go_wp2
    go_ret
    exact ⟨rfl, btr hb1 hb2⟩
end Go.Proofs.Ytmbllgblbdfobaa
