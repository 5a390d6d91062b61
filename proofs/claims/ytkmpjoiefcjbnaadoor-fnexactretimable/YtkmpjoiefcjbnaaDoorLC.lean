/- isLikeCell. -/
import Derived.Test.YtkmpjoiefcjbnaaDoorM5
import Derived.Test.YtkmpjoiefcjbnaaDoorMB
namespace Go.Proofs.YtkmpjoiefcjbnaaDoor
open Go.RowKit Gs
set_option linter.unusedVariables false
set_option maxRecDepth 100000
/-- A world behind one that boxed some cells. -/
def Bt (t : TypeId) (w : World) (vs : Array Value) (W : World) : Prop := Below (w.alloc (.cells vs t)).heap.size (w.alloc (.cells vs t)) W
theorem Bt.get {t : TypeId} {w W : World} {vs : Array Value} (h : Bt t w vs W) {j : Nat} {y : Value} (hj : vs[j]? = some y) : W.cell? ⟨w.heap.size, j, none⟩ = some y :=
  cell_later h (by rw [World.cell?_alloc_new]; exact hj)
theorem Bt.below {t : TypeId} {w W : World} {vs : Array Value} (h : Bt t w vs W) : Below w.heap.size w W := btr (bal (brf w) _) h
theorem Bt.then {t : TypeId} {w W V : World} {vs : Array Value} (h : Bt t w vs W) (hb : Below W.heap.size W V) : Bt t w vs V := btr h hb
theorem Bt.alloc {t : TypeId} {w W : World} {vs : Array Value} (h : Bt t w vs W) (o : Obj) : Bt t w vs (W.alloc o) := bal h o
theorem Bt.drew {t : TypeId} {w W : World} {vs : Array Value} (h : Bt t w vs W) : Bt t w vs W.drew := bdr h
theorem Bt.refl (t : TypeId) (w : World) (vs : Array Value) : Bt t w vs (w.alloc (.cells vs t)) := brf _
theorem Bt.size {t : TypeId} {w W : World} {vs : Array Value} (h : Bt t w vs W) : w.heap.size < W.heap.size := by
  have := Below.size h
  have e : (w.alloc (.cells vs t)).heap.size = w.heap.size + 1 := by go_simp
  omega
theorem Bt.get6 {t : TypeId} {w W : World} {v0 v1 v2 v3 v4 v5 : Value} (h : Bt t w #[v0, v1, v2, v3, v4, v5] W) : W.cell? ⟨w.heap.size, 0, none⟩ = some v0 ∧ W.cell? ⟨w.heap.size, 1, none⟩ = some v1 ∧ W.cell? ⟨w.heap.size, 2, none⟩ = some v2 ∧ W.cell? ⟨w.heap.size, 3, none⟩ = some v3 ∧ W.cell? ⟨w.heap.size, 4, none⟩ = some v4 ∧ W.cell? ⟨w.heap.size, 5, none⟩ = some v5 :=
  ⟨h.get rfl, h.get rfl, h.get rfl, h.get rfl, h.get rfl, h.get rfl⟩
/-- A text that is a known vector. -/
def knownS (s : ByteArray) : Bool := Vb.okV (L s) && (Vb.kn (L s) == Vb.ones s.size)
theorem iKnown (s : ByteArray) (w : World) (hs : s.size ≤ maxLen) : Calls Tryd.prog 82 #[.string s] w fun e w' => (∃ n k h, e = .returned (.tuple #[V n k h, .bool (knownS s)]) ∧ (knownS s = true → n = s.size)) ∧ Below w.heap.size w w' := by
  cases h : Vb.okV (L s)
  · refine (iKnownVec_no s w hs h).mono ?_
    rintro e w' ⟨rfl, hb⟩
    exact ⟨⟨0, 0#64, 0#64, by simp [knownS, h], by simp [knownS, h]⟩, hb⟩
  · refine (iKnownVec s w hs h).mono ?_
    rintro e w' ⟨rfl, hb⟩
    exact ⟨⟨s.size, Vb.kn (L s), Vb.wh (L s), by simp [knownS, h], fun _ => rfl⟩, hb⟩
/-- What isLikeCell answers. -/
def likeB (op width n : Int) (sg : Bool) (s : ByteArray) (xs : List Int) : Bool := if op = 29 ∧ knownS s = false then false else cellOp op && (decide (1 ≤ width) && decide (width ≤ 64)) && onlyN op n sg s && fitsOp op width n sg s xs
theorem cellOp_range {op : Int} (h : cellOp op = true) : 1 ≤ op ∧ op ≤ 29 := by
  simp [cellOp] at h; omega
set_option maxHeartbeats 8000000 in
theorem iLikeCell (op width n : Int) (sg : Bool) (s : ByteArray) (xs : List Int) (v : Value) (w : World) (hs : s.size ≤ maxLen) (hr : RS 6 RKid w 0 xs v) :
    Calls Tryd.prog 66 #[.agg #[.int .i64 op, .int .i64 width, .int .i64 n, .bool sg, .string s, v]] w fun e w' => e = .returned (.bool (likeB op width n sg s xs)) ∧ Below w.heap.size w w' := by
  have K := hide (fun W => iKnown s W hs)
  have OP := hide (fun W (h1 : 1 ≤ op) (h2 : op ≤ 29) (h : Below w.heap.size w W) => iOperation op width n sg s xs v W h1 h2 hs (hr.later RKid.keeps h))
  have ON := hide (fun W a l c (h2 : op ≤ 29) => iOnly op width n sg s a l c W h2)
  obtain ⟨a, c, e⟩ := hr.slice
  subst e
  clear hr
  generalize xs.length = l at *
  by_cases hk : op = 29 ∧ knownS s = false
  · have E : likeB op width n sg s xs = false := if_pos hk
    rw [E]
    obtain ⟨rfl, hk⟩ := hk
    clear E
    go_enter Tryd.func66, Tryd.ntmps66
    go_wp2_with fail
    refine (unhide K _).mono ?_
    rintro e W1 ⟨⟨n1, k1, h1, rfl, _⟩, hb1⟩
    have HX := hide (show Bt 104 w #[.int .i64 29, .int .i64 width, .int .i64 n, .bool sg, .string s, .slice a l c] W1 from hb1)
    clear hb1
    obtain ⟨q0, q1, q2, q3, q4, q5⟩ := (unhide HX).get6
    have hlt := (unhide HX).size
    rw [hk]
    unfold V
    go_wp2
    go_ret
    exact ⟨rfl, bal (unhide HX).below _⟩
  · have E : likeB op width n sg s xs = (cellOp op && (decide (1 ≤ width) && decide (width ≤ 64)) && onlyN op n sg s && fitsOp op width n sg s xs) := if_neg hk
    rw [E]
    clear E
    have hg : (op == 29) = false ∨ ((op == 29) = true ∧ knownS s = true) := by
      cases h : op == 29
      · exact .inl rfl
      · refine .inr ⟨rfl, ?_⟩
        have : op = 29 := by simpa using h
        cases h2 : knownS s
        · exact absurd ⟨this, h2⟩ hk
        · rfl
    clear hk
    have main : ∀ bK : Bool, ((op == 29) && !bK) = false → bK = knownS s → Calls Tryd.prog 66 #[.agg #[.int .i64 op, .int .i64 width, .int .i64 n, .bool sg, .string s, .slice a l c]] w fun e w' => e = .returned (.bool (cellOp op && (decide (1 ≤ width) && decide (width ≤ 64)) && onlyN op n sg s && fitsOp op width n sg s xs)) ∧ Below w.heap.size w w' := by
      intro bK hbk hbe
      have hcase : (op == 29) = false ∨ ((op == 29) = true ∧ bK = true) := by
        cases h : op == 29
        · exact .inl rfl
        · exact .inr ⟨rfl, by rw [h] at hbk; simpa using hbk⟩
      rw [show knownS s = bK from hbe.symm] at K
      clear hg hbk hbe
      cases hA : cellOp op
      · rcases hcase with h29 | ⟨h29, rfl⟩
        all_goals
          go_enter Tryd.func66, Tryd.ntmps66
          go_wp2_with fail
          refine (unhide K _).mono ?_
          rintro e W1 ⟨⟨n1, k1, h1, rfl, _⟩, hb1⟩
          have HX := hide (show Bt 104 w #[.int .i64 op, .int .i64 width, .int .i64 n, .bool sg, .string s, .slice a l c] W1 from hb1)
          clear hb1
          obtain ⟨q0, q1, q2, q3, q4, q5⟩ := (unhide HX).get6
          have hlt := (unhide HX).size
          unfold V
          go_wp2_with (first | (go_at_call 83; refine (iCellOp op _).mono ?_; rintro e W2 ⟨rfl, rfl⟩; rw [hA]))
          go_ret
          exact ⟨rfl, bal (unhide HX).below _⟩
      · obtain ⟨r1, r2⟩ := cellOp_range hA
        cases hW : (decide (1 ≤ width) && decide (width ≤ 64))
        · rcases hcase with h29 | ⟨h29, rfl⟩
          all_goals
            go_enter Tryd.func66, Tryd.ntmps66
            go_wp2_with fail
            refine (unhide K _).mono ?_
            rintro e W1 ⟨⟨n1, k1, h1, rfl, _⟩, hb1⟩
            have HX := hide (show Bt 104 w #[.int .i64 op, .int .i64 width, .int .i64 n, .bool sg, .string s, .slice a l c] W1 from hb1)
            clear hb1
            obtain ⟨q0, q1, q2, q3, q4, q5⟩ := (unhide HX).get6
            have hlt := (unhide HX).size
            unfold V
            go_wp2_with (first | (go_at_call 83; refine (iCellOp op _).mono ?_; rintro e W2 ⟨rfl, rfl⟩; rw [hA]) | (go_at_call 68; refine (iWidthOK width _).mono ?_; rintro e W2 ⟨rfl, rfl⟩; rw [hW]))
            go_ret
            exact ⟨rfl, bal (unhide HX).below _⟩
        · cases hN : onlyN op n sg s
          · rcases hcase with h29 | ⟨h29, rfl⟩
            all_goals
              go_enter Tryd.func66, Tryd.ntmps66
              go_wp2_with fail
              refine (unhide K _).mono ?_
              rintro e W1 ⟨⟨n1, k1, h1, rfl, _⟩, hb1⟩
              have HX := hide (show Bt 104 w #[.int .i64 op, .int .i64 width, .int .i64 n, .bool sg, .string s, .slice a l c] W1 from hb1)
              clear hb1
              obtain ⟨q0, q1, q2, q3, q4, q5⟩ := (unhide HX).get6
              have hlt := (unhide HX).size
              unfold V
              go_wp2_with (first | (go_at_call 83; refine (iCellOp op _).mono ?_; rintro e W2 ⟨rfl, rfl⟩; rw [hA]) | (go_at_call 68; refine (iWidthOK width _).mono ?_; rintro e W2 ⟨rfl, rfl⟩; rw [hW]) | (go_at_call 84; refine (unhide ON _ _ _ _ r2).mono ?_; rintro e W3 ⟨rfl, hb3⟩; have HY := hide (((unhide HX).alloc _).then hb3); clear hb3; rw [hN]))
              go_ret
              exact ⟨rfl, (unhide HY).below⟩
          · rcases hcase with h29 | ⟨h29, rfl⟩
            all_goals
              go_enter Tryd.func66, Tryd.ntmps66
              go_wp2_with fail
              refine (unhide K _).mono ?_
              rintro e W1 ⟨⟨n1, k1, h1, rfl, _⟩, hb1⟩
              have HX := hide (show Bt 104 w #[.int .i64 op, .int .i64 width, .int .i64 n, .bool sg, .string s, .slice a l c] W1 from hb1)
              clear hb1
              obtain ⟨q0, q1, q2, q3, q4, q5⟩ := (unhide HX).get6
              have hlt := (unhide HX).size
              unfold V
              go_wp2_with (first | (go_at_call 83; refine (iCellOp op _).mono ?_; rintro e W2 ⟨rfl, rfl⟩; rw [hA]) | (go_at_call 68; refine (iWidthOK width _).mono ?_; rintro e W2 ⟨rfl, rfl⟩; rw [hW]) | (go_at_call 84; refine (unhide ON _ _ _ _ r2).mono ?_; rintro e W3 ⟨rfl, hb3⟩; have HY := hide (((unhide HX).alloc _).then hb3); clear hb3; rw [hN]; clear q0 q1 q2 q3 q4 q5; obtain ⟨q0, q1, q2, q3, q4, q5⟩ := (unhide HY).get6) | (go_at_call 85; refine (unhide OP _ r1 r2 (unhide HY).below).mono ?_; rintro e W4 ⟨rfl, hb4⟩; have HZ := hide ((unhide HY).then hb4); clear hb4))
              go_ret
              exact ⟨rfl, (unhide HZ).below⟩
    rcases hg with h | ⟨h, hk⟩
    · exact main (knownS s) (by rw [h]; rfl) rfl
    · exact main true (by simp) hk.symm
end Go.Proofs.YtkmpjoiefcjbnaaDoor
