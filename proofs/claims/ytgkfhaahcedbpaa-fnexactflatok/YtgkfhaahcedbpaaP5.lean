/- The program's look at a flat design: what an operation must be. -/
import Derived.Test.YtgkfhaahcedbpaaGP3
import Derived.Test.YtgkfhaahcedbpaaP4
import Derived.Test.YtgkfhaahcedbpaaGSHs
namespace Go.Proofs.Ytgkfhaahcedbpaa
open Go Go.RowKit Gs
set_option linter.unusedVariables false
set_option linter.unusedSimpArgs false
set_option maxRecDepth 100000
set_option maxHeartbeats 16000000
theorem RExN.kid {d : Nat} {W : World} {B : Nat} {x : Ex} {u : List Value} (h : RExN d W B x u) : RKid W B x.width u := by
  obtain ⟨v5, hu, _, d', hr⟩ := h.cells
  obtain ⟨a, c, e⟩ := hr.slice
  exact ⟨x.op, x.n, x.signed, x.bits, a, x.kids.length, c, by rw [hu, e]⟩
theorem RS.kid {d : Nat} {W : World} {B : Nat} {xs : List Ex} {v : Value} (h : RS 6 (RExN d) W B xs v) : RS 6 RKid W B (xs.map (·.width)) v := by
  obtain ⟨a, c, hv, e1, e2, e3⟩ := h
  refine ⟨a, c, by rw [hv, List.length_map], by rw [List.length_map]; exact e1, by rw [List.length_map]; exact e2, fun hne => ?_⟩
  obtain ⟨b, o, ha, hb, he⟩ := e3 (by intro h; rw [h] at hne; exact hne rfl)
  refine ⟨b, o, ha, hb, fun i x hx => ?_⟩
  rw [List.getElem?_map] at hx
  obtain ⟨y, hy, rfl⟩ := Option.map_eq_some_iff.1 hx
  obtain ⟨u, hl, hat, hr⟩ := he i y hy
  exact ⟨u, hl, hat, hr.kid⟩
theorem iOperationNo (op width n : Int) (sd : Bool) (s : ByteArray) (ka : Option Addr) (L kc : Nat) (w : World) (h : op < 1 ∨ 29 < op) :
    Calls Try.prog 58 #[.agg #[.int .i64 op, .int .i64 width, .int .i64 n, .bool sd, .string s, .slice ka L kc]] w fun e w' => e = .returned (.bool false) ∧ Below w.heap.size w w' := by
  have fop : ∀ k : Int, 25 ≤ k → k ≤ 29 → (op == k) = false := fun k h1 h2 => beq_eq_false_iff_ne.2 (by omega)
  have f25 := fop 25 (by omega) (by omega)
  have f26 := fop 26 (by omega) (by omega)
  have f27 := fop 27 (by omega) (by omega)
  have f28 := fop 28 (by omega) (by omega)
  have f29 := fop 29 (by omega) (by omega)
  clear fop
  rcases h with h | h
  · have g1 : ¬ 1 ≤ op := by omega
    go_enter Try.func58, Try.ntmps58
    go_wp2
    exact bodyPost_ret (v := .bool false) (by simp [results, Try.results58, go_sem]) rfl ⟨rfl, bal (brf w) _⟩
  · have g1 : 1 ≤ op := by omega
    have g2 : ¬ op ≤ 24 := by omega
    go_enter Try.func58, Try.ntmps58
    go_wp2
    exact bodyPost_ret (v := .bool false) (by simp [results, Try.results58, go_sem]) rfl ⟨rfl, bal (brf w) _⟩
def readB (sg : List Signal) (op width n : Int) (l : Nat) : Bool := match sigAt sg n with | none => false | some g => sigB g op width l
/-- What the program says of an operation. -/
def opB (sg : List Signal) (op width n : Int) (sd : Bool) (s : ByteArray) (kw : List Int) : Bool :=
  if 30 ≤ op ∧ op ≤ 32 then readB sg op width n kw.length
  else if op < 1 ∨ 29 < op then false else fitsOp op width n sd s kw
theorem iOpFits (sg : List Signal) (op width n : Int) (sd : Bool) (s : ByteArray) (kw : List Int) (ka : Option Addr) (L kc : Nat) (lb : Nat) (sv : Value) (W : World) (hs : s.size ≤ maxLen) (hr : RS 6 RKid W 0 kw (.slice ka L kc)) (hsl : sg.length ≤ 1048576) (h0 : W.cell? ⟨lb, 0, none⟩ = some sv) (hsg : RS 6 RSignal W 0 sg sv) :
    Calls Try.prog 54 #[.pointer (some ⟨lb, 0, none⟩), .agg #[.int .i64 op, .int .i64 width, .int .i64 n, .bool sd, .string s, .slice ka L kc]] W fun e W' => e = .returned (.bool (opB sg op width n sd s kw)) ∧ Below W.heap.size W W' := by
  have hlen : kw.length = L := by
    obtain ⟨a, c, e⟩ := hr.slice
    injection e with e1 e2 e3
    exact e2.symm
  have hL : L ≤ maxLen := by rw [← hlen]; exact hr.len
  obtain ⟨X, hX⟩ : ∃ X, X = W.alloc (.cells #[.int .i64 op, .int .i64 width, .int .i64 n, .bool sd, .string s, .slice ka L kc] 72) := ⟨_, rfl⟩
  have hb : Below W.heap.size W X := by rw [hX]; exact bal (brf W) _
  have HXB := hide hb
  have HX := hide hX
  unfold opB
  by_cases h30 : 30 ≤ op ∧ op ≤ 32
  · rw [if_pos h30]
    have HRF : Hid (Calls Try.prog 57 #[.pointer (some ⟨lb, 0, none⟩), .agg #[.int .i64 op, .int .i64 width, .int .i64 n, .bool sd, .string s, .slice ka L kc]] X fun e W' => e = .returned (.bool (readB sg op width n L)) ∧ Below X.heap.size X W') := hide ((iReadFits sg op width n sd s ka L kc lb sv X h30.1 h30.2 hL hsl (cell_later hb h0) (hsg.later RSignal.keeps hb)).mono (by
      rintro e V ⟨rfl, hb⟩
      refine ⟨?_, hb⟩
      unfold readB
      cases sigAt sg n <;> rfl))
    rw [hlen]
    generalize readB sg op width n L = RB at *
    have hop : op = 30 ∨ op = 31 ∨ op = 32 := by omega
    clear hX hb h30 hsg h0 hr hs hL hlen
    rcases hop with rfl | rfl | rfl
    all_goals (
      go_enter Try.func54, Try.ntmps54
      go_wp2_with fail
      rw [← unhide HX]
      refine (unhide HRF).mono ?_
      rintro e V ⟨rfl, hv⟩
      have HV := hide (btr (unhide HXB) hv)
      clear hv
      go_wp2_with fail
      exact bodyPost_ret (v := .bool RB) (by simp [results, Try.results54, go_sem]) rfl ⟨rfl, unhide HV⟩)
  · rw [if_neg h30]
    have HOF : Hid (Calls Try.prog 58 #[.agg #[.int .i64 op, .int .i64 width, .int .i64 n, .bool sd, .string s, .slice ka L kc]] X fun e W' => e = .returned (.bool (if op < 1 ∨ 29 < op then false else fitsOp op width n sd s kw)) ∧ Below X.heap.size X W') := hide (by
      by_cases hbad : op < 1 ∨ 29 < op
      · rw [if_pos hbad]; exact iOperationNo op width n sd s ka L kc X hbad
      · rw [if_neg hbad]; exact iOperation op width n sd s kw _ X (by omega) (by omega) hs (hr.later RKid.keeps hb))
    generalize (if op < 1 ∨ 29 < op then false else fitsOp op width n sd s kw) = RB at *
    have f30 : (op == 30) = false := beq_eq_false_iff_ne.2 (by omega)
    have f31 : (op == 31) = false := beq_eq_false_iff_ne.2 (by omega)
    have f32 : (op == 32) = false := beq_eq_false_iff_ne.2 (by omega)
    clear hX hb h30 hsg h0 hr hs hL hlen
    go_enter Try.func54, Try.ntmps54
    go_wp2_with fail
    rw [← unhide HX]
    refine (unhide HOF).mono ?_
    rintro e V ⟨rfl, hv⟩
    have HV := hide (btr (unhide HXB) hv)
    clear hv
    go_wp2_with fail
    exact bodyPost_ret (v := .bool RB) (by simp [results, Try.results54, go_sem]) rfl ⟨rfl, unhide HV⟩
/- Both say the same of an operation of kids with right widths. -/
theorem wrap_small {x : Int} (h1 : -4000000 ≤ x) (h2 : x ≤ 4000000) : wrap64 x = x := by
  unfold wrap64; omega
theorem sumI_bd {xs : List Int} (h : ∀ x ∈ xs, 1 ≤ x ∧ x ≤ 64) : ∀ k, 0 ≤ sumI (xs.take k) ∧ sumI (xs.take k) ≤ 64 * (k : Int) := by
  intro k
  induction k with
  | zero => simp [sumI]
  | succ k ih =>
    by_cases hk : k < xs.length
    · have hx : xs[k]? = some xs[k] := List.getElem?_eq_getElem hk
      have hxm := h xs[k] (List.getElem_mem _)
      rw [sumI_take hx]
      omega
    · rw [List.take_of_length_le (by omega)]
      rw [List.take_of_length_le (by omega)] at ih
      omega
theorem sumW_sumI {xs : List Int} (h : ∀ x ∈ xs, 1 ≤ x ∧ x ≤ 64) (hl : xs.length ≤ 16384) : sumW xs = sumI xs := by
  suffices hh : ∀ k, k ≤ xs.length → sumW (xs.take k) = sumI (xs.take k) by
    have := hh xs.length (Nat.le_refl _)
    rwa [List.take_of_length_le (Nat.le_refl _)] at this
  intro k
  induction k with
  | zero => intro _; rfl
  | succ k ih =>
    intro hk
    have hx : xs[k]? = some xs[k] := List.getElem?_eq_getElem (by omega)
    have hb := sumI_bd h k
    have hxm := h xs[k] (List.getElem_mem _)
    rw [sumW_take hx, sumI_take hx, ih (by omega), wrap_small (by omega) (by omega)]
theorem fits_shape24 (op width n : Int) (sg : Bool) (s : ByteArray) (xs : List Int) (h1 : 1 ≤ op) (h24 : op ≤ 24) : fitsOp op width n sg s xs = shapeB op width n sg s xs := by
  have : op = 1 ∨ op = 2 ∨ op = 3 ∨ op = 4 ∨ op = 5 ∨ op = 6 ∨ op = 7 ∨ op = 8 ∨ op = 9 ∨ op = 10 ∨ op = 11 ∨ op = 12 ∨ op = 13 ∨ op = 14 ∨ op = 15 ∨ op = 16 ∨ op = 17 ∨ op = 18 ∨ op = 19 ∨ op = 20 ∨ op = 21 ∨ op = 22 ∨ op = 23 ∨ op = 24 := by omega
  rcases this with rfl | rfl | rfl | rfl | rfl | rfl | rfl | rfl | rfl | rfl | rfl | rfl | rfl | rfl | rfl | rfl | rfl | rfl | rfl | rfl | rfl | rfl | rfl | rfl
  all_goals
    rcases xs with _ | ⟨x, _ | ⟨y, _ | ⟨z, t⟩⟩⟩
    all_goals
      rw [Bool.eq_iff_iff]
      simp [fitsOp, shapeB, fitsO, fits1, fits2, bitOp, anyW, sh1, sh2]
      try omega
theorem fits_shape (op width n : Int) (sg : Bool) (s : ByteArray) (xs : List Int) (h1 : 1 ≤ op) (h29 : op ≤ 29) (hw1 : 1 ≤ width) (hw2 : width ≤ 64) (hx : ∀ x ∈ xs, 1 ≤ x ∧ x ≤ 64) (hl : xs.length ≤ 16384) : fitsOp op width n sg s xs = shapeB op width n sg s xs := by
  by_cases h24 : op ≤ 24
  · exact fits_shape24 op width n sg s xs h1 h24
  obtain rfl | rfl | rfl | rfl | rfl : op = 25 ∨ op = 26 ∨ op = 27 ∨ op = 28 ∨ op = 29 := by omega
  · rcases xs with _ | ⟨x, _ | ⟨y, _ | ⟨z, _ | ⟨u, t⟩⟩⟩⟩ <;> simp [fitsOp, shapeB, fits25, sh3]
  · show (sumW xs == width) = (sumI xs == width)
    rw [sumW_sumI hx hl]
  · rcases xs with _ | ⟨x, _ | ⟨y, t⟩⟩
    · rfl
    · have h := hx x (by simp)
      show (decide (0 ≤ n) && decide (n ≤ wrap64 (x - width))) = (decide (0 ≤ n) && decide (n ≤ 64) && decide (n + width ≤ x))
      rw [wrap_small (by omega) (by omega), Bool.eq_iff_iff]
      simp
      omega
    · rfl
  · rcases xs with _ | ⟨x, _ | ⟨y, t⟩⟩
    · rfl
    · show ((x != width) && (decide (x < width) || !sg)) = ((x != width) && (!sg || decide (x < width)))
      rw [Bool.or_comm]
    · rfl
  · show fits29 width s xs = (decide (xs.length = 0) && Vb.okV (L s) && ((s.size : Int) == width))
    unfold fits29
    rw [show xs.isEmpty = decide (xs.length = 0) from by cases xs <;> simp, Bool.and_assoc, Bool.and_assoc, Bool.and_comm (Vb.okV (L s))]
/-- An operation of kids with right widths. -/
theorem op_same (sg : List Signal) (op width n : Int) (sd : Bool) (s : ByteArray) (kw : List Int) (hw1 : 1 ≤ width) (hw2 : width ≤ 64) (hx : ∀ x ∈ kw, 1 ≤ x ∧ x ≤ 64) (hl : kw.length ≤ 16384) :
    (onlyG op n sd s && opB sg op width n sd s kw) = (fieldsB op n sd s && shG sg op width n sd s kw) := by
  by_cases h30 : 30 ≤ op ∧ op ≤ 32
  · have e1 : opB sg op width n sd s kw = shG sg op width n sd s kw := by
      unfold opB shG readB sigAt
      rw [if_pos h30, if_pos h30]
      by_cases hn : n < 0
      · rw [if_pos hn, if_pos hn]
      · rw [if_neg hn, if_neg hn]
        cases sg[n.toNat]? <;> rfl
    have e2 : onlyG op n sd s = fieldsB op n sd s := by
      have : op = 30 ∨ op = 31 ∨ op = 32 := by omega
      rcases this with rfl | rfl | rfl <;> cases sd <;> simp [onlyG, fieldsB, signOp]
    rw [e1, e2]
  · by_cases hbad : op < 1 ∨ 29 < op
    · have e1 : opB sg op width n sd s kw = false := by unfold opB; rw [if_neg h30, if_pos hbad]
      have e2 : shG sg op width n sd s kw = false := by
        unfold shG
        rw [if_neg h30]
        unfold shapeB
        by_cases h0 : op < 1
        · rw [if_pos h0]
        · rw [if_neg h0, if_neg (by omega), if_neg (by omega), if_neg (by omega), if_neg (by omega), if_neg (by omega), if_neg (by omega), if_neg (by omega), if_neg (by omega), if_neg (by omega), if_neg (by omega), if_neg (by omega)]
      rw [e1, e2, Bool.and_false, Bool.and_false]
    · have e1 : opB sg op width n sd s kw = shG sg op width n sd s kw := by
        unfold opB shG
        rw [if_neg h30, if_neg hbad, if_neg h30]
        exact fits_shape op width n sd s kw (by omega) (by omega) hw1 hw2 hx hl
      have e2 : onlyG op n sd s = fieldsB op n sd s := by
        unfold onlyG fieldsB signOp
        rw [decide_eq_false (show ¬ op = 30 by omega), decide_eq_false (show ¬ op = 31 by omega), decide_eq_false (show ¬ op = 32 by omega), decide_eq_false (show ¬ 30 ≤ op by omega)]
        generalize decide (op = 27) = a
        generalize decide (n = 0) = b
        generalize decide (op = 28) = c
        generalize decide (op = 7) = e
        generalize decide (op = 8) = f
        generalize decide (op = 12) = g
        generalize decide (op = 13) = h
        generalize decide (op = 29) = i
        generalize s.toList.isEmpty = j
        clear e1
        revert a b c e f g h i j sd
        decide
      rw [e1, e2]
end Go.Proofs.Ytgkfhaahcedbpaa
