/- The program's and the specification's ChipOK; the law. -/
import Derived.Test.YtdmmbhemmbgcpacGS2
namespace Go.Proofs.Ytdmmbhemmbgcpac
open Go Go.RowKit Gs
set_option linter.unusedVariables false
set_option linter.unusedSimpArgs false
set_option maxRecDepth 100000
/-- From 1 on, and not above another one. -/
def upTo (n m : Int) : Bool := decide (1 ≤ n) && decide (n ≤ m)
/-- What ChipOK answers. -/
def chipB (x0 x1 x2 x3 : Int) : Bool := upTo x0 8 && (upTo x1 8 && (upTo x2 8 && upTo x3 4))
theorem iUpTo (n m : Int) (w : World) : Calls Try.prog 7 #[.int .i64 n, .int .i64 m] w fun e w' => e = .returned (.bool (upTo n m)) ∧ w' = w := by
  go_enter Try.func7, Try.ntmps7
  by_cases h0 : 1 ≤ n
  · go_wp2
    exact bodyPost_ret (v := .bool (decide (n ≤ m))) (by simp [results, Try.results7, go_sem]) rfl ⟨by rw [upTo, decide_eq_true h0]; rfl, rfl⟩
  · have h1 : n < 1 := by omega
    go_wp2
    exact bodyPost_ret (v := .bool false) (by simp [results, Try.results7, go_sem]) rfl ⟨by rw [upTo, decide_eq_false (by omega)]; rfl, rfl⟩
set_option maxHeartbeats 1600000 in
theorem iChipOK (x0 x1 x2 x3 : Int) (w : World) : Calls Try.prog 6 #[.agg #[.int .i64 x0, .int .i64 x1, .int .i64 x2, .int .i64 x3]] w fun e w' => e = .returned (.bool (chipB x0 x1 x2 x3)) ∧ Below w.heap.size w w' := by
  have H0 := hide (fun V => iUpTo x0 8 V)
  have H1 := hide (fun V => iUpTo x1 8 V)
  have H2 := hide (fun V => iUpTo x2 8 V)
  have H3 := hide (fun V => iUpTo x3 4 V)
  have HR : Hid (chipB x0 x1 x2 x3 = (upTo x0 8 && (upTo x1 8 && (upTo x2 8 && upTo x3 4)))) := hide rfl
  generalize chipB x0 x1 x2 x3 = RR at *
  generalize upTo x0 8 = p0 at *
  generalize upTo x1 8 = p1 at *
  generalize upTo x2 8 = p2 at *
  generalize upTo x3 4 = p3 at *
  cases p0
  · go_enter Try.func6, Try.ntmps6
    go_wp2_with fail
    refine (unhide H0 _).mono ?_
    rintro e W0 ⟨rfl, h⟩
    have h' := h.symm
    subst h'
    go_wp2_with fail
    exact bodyPost_ret (v := .bool false) (by simp [results, Try.results6, go_sem]) rfl ⟨by rw [unhide HR]; rfl, bal (brf w) _⟩
  · cases p1
    · go_enter Try.func6, Try.ntmps6
      go_wp2_with fail
      refine (unhide H0 _).mono ?_
      rintro e W0 ⟨rfl, h⟩
      have h' := h.symm
      subst h'
      go_wp2_with fail
      refine (unhide H1 _).mono ?_
      rintro e W1 ⟨rfl, h⟩
      have h' := h.symm
      subst h'
      go_wp2_with fail
      exact bodyPost_ret (v := .bool false) (by simp [results, Try.results6, go_sem]) rfl ⟨by rw [unhide HR]; rfl, bal (brf w) _⟩
    · cases p2
      · go_enter Try.func6, Try.ntmps6
        go_wp2_with fail
        refine (unhide H0 _).mono ?_
        rintro e W0 ⟨rfl, h⟩
        have h' := h.symm
        subst h'
        go_wp2_with fail
        refine (unhide H1 _).mono ?_
        rintro e W1 ⟨rfl, h⟩
        have h' := h.symm
        subst h'
        go_wp2_with fail
        refine (unhide H2 _).mono ?_
        rintro e W2 ⟨rfl, h⟩
        have h' := h.symm
        subst h'
        go_wp2_with fail
        exact bodyPost_ret (v := .bool false) (by simp [results, Try.results6, go_sem]) rfl ⟨by rw [unhide HR]; rfl, bal (brf w) _⟩
      · cases p3
        · go_enter Try.func6, Try.ntmps6
          go_wp2_with fail
          refine (unhide H0 _).mono ?_
          rintro e W0 ⟨rfl, h⟩
          have h' := h.symm
          subst h'
          go_wp2_with fail
          refine (unhide H1 _).mono ?_
          rintro e W1 ⟨rfl, h⟩
          have h' := h.symm
          subst h'
          go_wp2_with fail
          refine (unhide H2 _).mono ?_
          rintro e W2 ⟨rfl, h⟩
          have h' := h.symm
          subst h'
          go_wp2_with fail
          refine (unhide H3 _).mono ?_
          rintro e W3 ⟨rfl, h⟩
          have h' := h.symm
          subst h'
          go_wp2_with fail
          exact bodyPost_ret (v := .bool false) (by simp [results, Try.results6, go_sem]) rfl ⟨by rw [unhide HR]; rfl, bal (brf w) _⟩
        · go_enter Try.func6, Try.ntmps6
          go_wp2_with fail
          refine (unhide H0 _).mono ?_
          rintro e W0 ⟨rfl, h⟩
          have h' := h.symm
          subst h'
          go_wp2_with fail
          refine (unhide H1 _).mono ?_
          rintro e W1 ⟨rfl, h⟩
          have h' := h.symm
          subst h'
          go_wp2_with fail
          refine (unhide H2 _).mono ?_
          rintro e W2 ⟨rfl, h⟩
          have h' := h.symm
          subst h'
          go_wp2_with fail
          refine (unhide H3 _).mono ?_
          rintro e W3 ⟨rfl, h⟩
          have h' := h.symm
          subst h'
          go_wp2_with fail
          exact bodyPost_ret (v := .bool true) (by simp [results, Try.results6, go_sem]) rfl ⟨by rw [unhide HR]; rfl, bal (brf w) _⟩
set_option maxHeartbeats 1600000 in
theorem sChipOK (x0 x1 x2 x3 : Int) (w : World) : Calls Try.prog 4 #[.agg #[.int .i64 x0, .int .i64 x1, .int .i64 x2, .int .i64 x3]] w fun e w' => e = .returned (.bool (chipB x0 x1 x2 x3)) ∧ Below w.heap.size w w' := by
  by_cases k0 : 1 ≤ x0
  rotate_left
  · have HF : chipB x0 x1 x2 x3 = false := by simp [chipB, upTo]; omega
    have n0 : x0 < 1 := by omega
    go_enter Try.func4, Try.ntmps4
    go_wp2
    exact bodyPost_ret (v := .bool false) (by simp [results, Try.results4, go_sem]) rfl ⟨rfl, bal (brf w) _⟩
  by_cases k1 : x0 ≤ 8
  rotate_left
  · have HF : chipB x0 x1 x2 x3 = false := by simp [chipB, upTo]; omega
    have n1 : 8 < x0 := by omega
    go_enter Try.func4, Try.ntmps4
    go_wp2
    exact bodyPost_ret (v := .bool false) (by simp [results, Try.results4, go_sem]) rfl ⟨rfl, bal (brf w) _⟩
  by_cases k2 : 1 ≤ x1
  rotate_left
  · have HF : chipB x0 x1 x2 x3 = false := by simp [chipB, upTo]; omega
    have n2 : x1 < 1 := by omega
    go_enter Try.func4, Try.ntmps4
    go_wp2
    exact bodyPost_ret (v := .bool false) (by simp [results, Try.results4, go_sem]) rfl ⟨rfl, bal (brf w) _⟩
  by_cases k3 : x1 ≤ 8
  rotate_left
  · have HF : chipB x0 x1 x2 x3 = false := by simp [chipB, upTo]; omega
    have n3 : 8 < x1 := by omega
    go_enter Try.func4, Try.ntmps4
    go_wp2
    exact bodyPost_ret (v := .bool false) (by simp [results, Try.results4, go_sem]) rfl ⟨rfl, bal (brf w) _⟩
  by_cases k4 : 1 ≤ x2
  rotate_left
  · have HF : chipB x0 x1 x2 x3 = false := by simp [chipB, upTo]; omega
    have n4 : x2 < 1 := by omega
    go_enter Try.func4, Try.ntmps4
    go_wp2
    exact bodyPost_ret (v := .bool false) (by simp [results, Try.results4, go_sem]) rfl ⟨rfl, bal (brf w) _⟩
  by_cases k5 : x2 ≤ 8
  rotate_left
  · have HF : chipB x0 x1 x2 x3 = false := by simp [chipB, upTo]; omega
    have n5 : 8 < x2 := by omega
    go_enter Try.func4, Try.ntmps4
    go_wp2
    exact bodyPost_ret (v := .bool false) (by simp [results, Try.results4, go_sem]) rfl ⟨rfl, bal (brf w) _⟩
  by_cases k6 : 1 ≤ x3
  rotate_left
  · have HF : chipB x0 x1 x2 x3 = false := by simp [chipB, upTo]; omega
    have n6 : x3 < 1 := by omega
    go_enter Try.func4, Try.ntmps4
    go_wp2
    exact bodyPost_ret (v := .bool false) (by simp [results, Try.results4, go_sem]) rfl ⟨rfl, bal (brf w) _⟩
  by_cases k7 : x3 ≤ 4
  rotate_left
  · have HF : chipB x0 x1 x2 x3 = false := by simp [chipB, upTo]; omega
    have n7 : 4 < x3 := by omega
    go_enter Try.func4, Try.ntmps4
    go_wp2
    exact bodyPost_ret (v := .bool false) (by simp [results, Try.results4, go_sem]) rfl ⟨rfl, bal (brf w) _⟩
  have HF : chipB x0 x1 x2 x3 = true := by simp [chipB, upTo]; omega
  go_enter Try.func4, Try.ntmps4
  go_wp2
  exact bodyPost_ret (v := .bool true) (by simp [results, Try.results4, go_sem]) rfl ⟨by rw [HF], bal (brf w) _⟩
set_option maxHeartbeats 1600000 in
theorem toChip_of (x0 x1 x2 x3 : Int) (w : World) : Calls Try.prog 5 #[.agg #[.int .i64 x0, .int .i64 x1, .int .i64 x2, .int .i64 x3]] w fun e w' => e = .returned (.agg #[.int .i64 x0, .int .i64 x1, .int .i64 x2, .int .i64 x3]) ∧ Below w.heap.size w w' := by
  go_enter Try.func5, Try.ntmps5
  go_wp2
  exact bodyPost_ret (v := .agg #[.int .i64 x0, .int .i64 x1, .int .i64 x2, .int .i64 x3]) (by simp [results, Try.results5, go_sem]) rfl ⟨rfl, bal (bal (bal (brf w) _) _) _⟩
set_option maxHeartbeats 1600000 in
theorem lChipOK (x0 x1 x2 x3 : Int) (w : World) : Calls Try.prog 3 #[.agg #[.int .i64 x0, .int .i64 x1, .int .i64 x2, .int .i64 x3]] w fun e w' => e = .returned (.bool true) ∧ Below w.heap.size w w' := by
  have HI := hide (fun V => iChipOK x0 x1 x2 x3 V)
  have HS := hide (fun V => sChipOK x0 x1 x2 x3 V)
  have HT := hide (fun V => toChip_of x0 x1 x2 x3 V)
  generalize chipB x0 x1 x2 x3 = RR at *
  have hne : (RR != RR) = false := by simp
  go_enter Try.func3, Try.ntmps3
  go_wp2_with fail
  obtain ⟨W, hW⟩ : ∃ W, W = w.alloc (.cells #[.int .i64 x0, .int .i64 x1, .int .i64 x2, .int .i64 x3] 23) := ⟨_, rfl⟩
  have HG : Hid (∀ V, Below W.heap.size W V → V.cell? ⟨w.heap.size, 0, none⟩ = some (.int .i64 x0) ∧ V.cell? ⟨w.heap.size, 1, none⟩ = some (.int .i64 x1) ∧ V.cell? ⟨w.heap.size, 2, none⟩ = some (.int .i64 x2) ∧ V.cell? ⟨w.heap.size, 3, none⟩ = some (.int .i64 x3)) := hide (fun V hb => by
    rw [hW] at hb
    exact ⟨cell_later hb (by rw [World.cell?_alloc_new]; rfl), cell_later hb (by rw [World.cell?_alloc_new]; rfl), cell_later hb (by rw [World.cell?_alloc_new]; rfl), cell_later hb (by rw [World.cell?_alloc_new]; rfl)⟩)
  have HW : Hid (Below w.heap.size w W) := hide (by rw [hW]; exact bal (brf w) _)
  rw [← hW]
  clear hW
  refine (unhide HT _).mono ?_
  rintro e W1 ⟨rfl, h1⟩
  have B1 : Hid (Below W.heap.size W W1) := hide h1
  clear h1
  go_wp2_with fail
  refine (unhide HS _).mono ?_
  rintro e W2 ⟨rfl, h2⟩
  have B2 : Hid (Below W.heap.size W W2) := hide (btr (unhide B1) h2)
  clear h2
  obtain ⟨q0, q1, q2, q3⟩ := unhide HG W2 (unhide B2)
  go_wp2_with fail
  refine (unhide HT _).mono ?_
  rintro e W3 ⟨rfl, h3⟩
  have B3 : Hid (Below W.heap.size W W3) := hide (btr (unhide B2) h3)
  clear h3 q0 q1 q2 q3
  go_wp2_with fail
  refine (unhide HI _).mono ?_
  rintro e W4 ⟨rfl, h4⟩
  have B4 : Hid (Below W.heap.size W W4) := hide (btr (unhide B3) h4)
  clear h4
  go_wp2
  exact bodyPost_ret (v := .bool true) (by simp [results, Try.results3, go_sem]) rfl ⟨rfl, btr (unhide HW) (unhide B4)⟩
end Go.Proofs.Ytdmmbhemmbgcpac
