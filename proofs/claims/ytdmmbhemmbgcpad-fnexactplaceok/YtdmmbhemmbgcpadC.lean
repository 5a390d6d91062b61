/- The program's and the specification's ChipOK; the law. -/
import Derived.Test.YtdmmbhemmbgcpadGS2
namespace Go.Proofs.Ytdmmbhemmbgcpad
open Go Go.RowKit Gs
set_option linter.unusedVariables false
set_option linter.unusedSimpArgs false
set_option maxRecDepth 100000
/-- From 1 on, and not above another one. -/
def upTo (n m : Int) : Bool := decide (1 ≤ n) && decide (n ≤ m)
/-- What ChipOK answers. -/
def chipB (x0 x1 x2 x3 : Int) : Bool := upTo x0 8 && (upTo x1 8 && (upTo x2 8 && upTo x3 4))
theorem iUpTo (n m : Int) (w : World) : Calls Try.prog 41 #[.int .i64 n, .int .i64 m] w fun e w' => e = .returned (.bool (upTo n m)) ∧ w' = w := by
  go_enter Try.func41, Try.ntmps41
  by_cases h0 : 1 ≤ n
  · go_wp2
    exact bodyPost_ret (v := .bool (decide (n ≤ m))) (by simp [results, Try.results41, go_sem]) rfl ⟨by rw [upTo, decide_eq_true h0]; rfl, rfl⟩
  · have h1 : n < 1 := by omega
    go_wp2
    exact bodyPost_ret (v := .bool false) (by simp [results, Try.results41, go_sem]) rfl ⟨by rw [upTo, decide_eq_false (by omega)]; rfl, rfl⟩
set_option maxHeartbeats 1600000 in
theorem iChipOK (x0 x1 x2 x3 : Int) (w : World) : Calls Try.prog 22 #[.agg #[.int .i64 x0, .int .i64 x1, .int .i64 x2, .int .i64 x3]] w fun e w' => e = .returned (.bool (chipB x0 x1 x2 x3)) ∧ Below w.heap.size w w' := by
  have H0 := hide (fun V => iUpTo x0 8 V)
  have H1 := hide (fun V => iUpTo x1 8 V)
  have H2 := hide (fun V => iUpTo x2 8 V)
  have H3 := hide (fun V => iUpTo x3 4 V)
  have HR : Hid (chipB x0 x1 x2 x3 = (upTo x0 8 && (upTo x1 8 && (upTo x2 8 && upTo x3 4)))) := hide rfl
  generalize chipB x0 x1 x2 x3 = RR at *
  generalize upTo x0 8 = p0 at *
  generalize upTo x1 8 = p1 at *
  generalize upTo x2 8 = p2 at *
  generalize upTo x3 4 = p3 at *
  cases p0
  · go_enter Try.func22, Try.ntmps22
    go_wp2_with fail
    refine (unhide H0 _).mono ?_
    rintro e W0 ⟨rfl, h⟩
    have h' := h.symm
    subst h'
    go_wp2_with fail
    exact bodyPost_ret (v := .bool false) (by simp [results, Try.results22, go_sem]) rfl ⟨by rw [unhide HR]; rfl, bal (brf w) _⟩
  · cases p1
    · go_enter Try.func22, Try.ntmps22
      go_wp2_with fail
      refine (unhide H0 _).mono ?_
      rintro e W0 ⟨rfl, h⟩
      have h' := h.symm
      subst h'
      go_wp2_with fail
      refine (unhide H1 _).mono ?_
      rintro e W1 ⟨rfl, h⟩
      have h' := h.symm
      subst h'
      go_wp2_with fail
      exact bodyPost_ret (v := .bool false) (by simp [results, Try.results22, go_sem]) rfl ⟨by rw [unhide HR]; rfl, bal (brf w) _⟩
    · cases p2
      · go_enter Try.func22, Try.ntmps22
        go_wp2_with fail
        refine (unhide H0 _).mono ?_
        rintro e W0 ⟨rfl, h⟩
        have h' := h.symm
        subst h'
        go_wp2_with fail
        refine (unhide H1 _).mono ?_
        rintro e W1 ⟨rfl, h⟩
        have h' := h.symm
        subst h'
        go_wp2_with fail
        refine (unhide H2 _).mono ?_
        rintro e W2 ⟨rfl, h⟩
        have h' := h.symm
        subst h'
        go_wp2_with fail
        exact bodyPost_ret (v := .bool false) (by simp [results, Try.results22, go_sem]) rfl ⟨by rw [unhide HR]; rfl, bal (brf w) _⟩
      · cases p3
        · go_enter Try.func22, Try.ntmps22
          go_wp2_with fail
          refine (unhide H0 _).mono ?_
          rintro e W0 ⟨rfl, h⟩
          have h' := h.symm
          subst h'
          go_wp2_with fail
          refine (unhide H1 _).mono ?_
          rintro e W1 ⟨rfl, h⟩
          have h' := h.symm
          subst h'
          go_wp2_with fail
          refine (unhide H2 _).mono ?_
          rintro e W2 ⟨rfl, h⟩
          have h' := h.symm
          subst h'
          go_wp2_with fail
          refine (unhide H3 _).mono ?_
          rintro e W3 ⟨rfl, h⟩
          have h' := h.symm
          subst h'
          go_wp2_with fail
          exact bodyPost_ret (v := .bool false) (by simp [results, Try.results22, go_sem]) rfl ⟨by rw [unhide HR]; rfl, bal (brf w) _⟩
        · go_enter Try.func22, Try.ntmps22
          go_wp2_with fail
          refine (unhide H0 _).mono ?_
          rintro e W0 ⟨rfl, h⟩
          have h' := h.symm
          subst h'
          go_wp2_with fail
          refine (unhide H1 _).mono ?_
          rintro e W1 ⟨rfl, h⟩
          have h' := h.symm
          subst h'
          go_wp2_with fail
          refine (unhide H2 _).mono ?_
          rintro e W2 ⟨rfl, h⟩
          have h' := h.symm
          subst h'
          go_wp2_with fail
          refine (unhide H3 _).mono ?_
          rintro e W3 ⟨rfl, h⟩
          have h' := h.symm
          subst h'
          go_wp2_with fail
          exact bodyPost_ret (v := .bool true) (by simp [results, Try.results22, go_sem]) rfl ⟨by rw [unhide HR]; rfl, bal (brf w) _⟩
set_option maxHeartbeats 1600000 in
theorem sChipOK (x0 x1 x2 x3 : Int) (w : World) : Calls Try.prog 16 #[.agg #[.int .i64 x0, .int .i64 x1, .int .i64 x2, .int .i64 x3]] w fun e w' => e = .returned (.bool (chipB x0 x1 x2 x3)) ∧ Below w.heap.size w w' := by
  by_cases k0 : 1 ≤ x0
  rotate_left
  · have HF : chipB x0 x1 x2 x3 = false := by simp [chipB, upTo]; omega
    have n0 : x0 < 1 := by omega
    go_enter Try.func16, Try.ntmps16
    go_wp2
    exact bodyPost_ret (v := .bool false) (by simp [results, Try.results16, go_sem]) rfl ⟨rfl, bal (brf w) _⟩
  by_cases k1 : x0 ≤ 8
  rotate_left
  · have HF : chipB x0 x1 x2 x3 = false := by simp [chipB, upTo]; omega
    have n1 : 8 < x0 := by omega
    go_enter Try.func16, Try.ntmps16
    go_wp2
    exact bodyPost_ret (v := .bool false) (by simp [results, Try.results16, go_sem]) rfl ⟨rfl, bal (brf w) _⟩
  by_cases k2 : 1 ≤ x1
  rotate_left
  · have HF : chipB x0 x1 x2 x3 = false := by simp [chipB, upTo]; omega
    have n2 : x1 < 1 := by omega
    go_enter Try.func16, Try.ntmps16
    go_wp2
    exact bodyPost_ret (v := .bool false) (by simp [results, Try.results16, go_sem]) rfl ⟨rfl, bal (brf w) _⟩
  by_cases k3 : x1 ≤ 8
  rotate_left
  · have HF : chipB x0 x1 x2 x3 = false := by simp [chipB, upTo]; omega
    have n3 : 8 < x1 := by omega
    go_enter Try.func16, Try.ntmps16
    go_wp2
    exact bodyPost_ret (v := .bool false) (by simp [results, Try.results16, go_sem]) rfl ⟨rfl, bal (brf w) _⟩
  by_cases k4 : 1 ≤ x2
  rotate_left
  · have HF : chipB x0 x1 x2 x3 = false := by simp [chipB, upTo]; omega
    have n4 : x2 < 1 := by omega
    go_enter Try.func16, Try.ntmps16
    go_wp2
    exact bodyPost_ret (v := .bool false) (by simp [results, Try.results16, go_sem]) rfl ⟨rfl, bal (brf w) _⟩
  by_cases k5 : x2 ≤ 8
  rotate_left
  · have HF : chipB x0 x1 x2 x3 = false := by simp [chipB, upTo]; omega
    have n5 : 8 < x2 := by omega
    go_enter Try.func16, Try.ntmps16
    go_wp2
    exact bodyPost_ret (v := .bool false) (by simp [results, Try.results16, go_sem]) rfl ⟨rfl, bal (brf w) _⟩
  by_cases k6 : 1 ≤ x3
  rotate_left
  · have HF : chipB x0 x1 x2 x3 = false := by simp [chipB, upTo]; omega
    have n6 : x3 < 1 := by omega
    go_enter Try.func16, Try.ntmps16
    go_wp2
    exact bodyPost_ret (v := .bool false) (by simp [results, Try.results16, go_sem]) rfl ⟨rfl, bal (brf w) _⟩
  by_cases k7 : x3 ≤ 4
  rotate_left
  · have HF : chipB x0 x1 x2 x3 = false := by simp [chipB, upTo]; omega
    have n7 : 4 < x3 := by omega
    go_enter Try.func16, Try.ntmps16
    go_wp2
    exact bodyPost_ret (v := .bool false) (by simp [results, Try.results16, go_sem]) rfl ⟨rfl, bal (brf w) _⟩
  have HF : chipB x0 x1 x2 x3 = true := by simp [chipB, upTo]; omega
  go_enter Try.func16, Try.ntmps16
  go_wp2
  exact bodyPost_ret (v := .bool true) (by simp [results, Try.results16, go_sem]) rfl ⟨by rw [HF], bal (brf w) _⟩
set_option maxHeartbeats 1600000 in
theorem toChip_of (x0 x1 x2 x3 : Int) (w : World) : Calls Try.prog 7 #[.agg #[.int .i64 x0, .int .i64 x1, .int .i64 x2, .int .i64 x3]] w fun e w' => e = .returned (.agg #[.int .i64 x0, .int .i64 x1, .int .i64 x2, .int .i64 x3]) ∧ Below w.heap.size w w' := by
  go_enter Try.func7, Try.ntmps7
  go_wp2
  exact bodyPost_ret (v := .agg #[.int .i64 x0, .int .i64 x1, .int .i64 x2, .int .i64 x3]) (by simp [results, Try.results7, go_sem]) rfl ⟨rfl, bal (bal (bal (brf w) _) _) _⟩
end Go.Proofs.Ytdmmbhemmbgcpad
