/- The law. -/
import Derived.Test.YtnoklbnacfmpdaaC3
import Derived.Test.YtnoklbnacfmpdaaDS
import Derived.Test.YtnoklbnacfmpdaaDT
import Derived.Test.YtnoklbnacfmpdaaDE
namespace Go.Proofs.Ytnoklbnacfmpdaa
open Go Go.RowKit Gs
set_option linter.unusedVariables false
set_option linter.unusedSimpArgs false
set_option maxRecDepth 100000
set_option maxHeartbeats 6400000 in
theorem lOK (vars : Int) (cs : List (List Int)) (v : Value) (w : World) (hr : RS 1 RIntS w 0 cs v) :
    Calls Try.prog 3 #[.int .i64 vars, v] w fun e w' => e = .returned (.bool true) ∧ Below w.heap.size w w' := by
  have SZ : Hid (Calls Try.prog 4 #[v, .int .i64 1048576] w fun e w' => e = .returned (.int .i64 (szR (szL szIntS cs) 1048576)) ∧ Below w.heap.size w w') := hide (szIntSS_of cs v w 1048576 (Nat.le_refl _) hr)
  have TN : Hid (∀ W, Below w.heap.size w W → szL szIntS cs ≤ 1048576 → Calls Try.prog 6 #[v] W fun e w' => (∃ v', e = .returned v' ∧ RS 1 RIntS w' W.heap.size cs v') ∧ Below W.heap.size W w' ∧ NF W.heap.size w') := hide (fun W h hl => toIntSS_of cs v W hl (hr.later RIntS.keeps h))
  have SP : Hid (∀ W v', RS 1 RIntS W 0 cs v' → Calls Try.prog 5 #[.int .i64 vars, v'] W fun e w' => e = .returned (.bool (okC vars 64 cs)) ∧ Below W.heap.size W w') := hide (fun W v' h => sOK vars cs v' W h)
  have IM : Hid (∀ W v', RS 1 RIntS W 0 cs v' → Calls Try.prog 7 #[.int .i64 vars, v'] W fun e w' => e = .returned (.bool (okC vars 64 cs)) ∧ Below W.heap.size W w') := hide (fun W v' h => iOK vars cs v' W h)
  obtain ⟨a, c, rfl⟩ := hr.slice
  clear hr
  generalize okC vars 64 cs = SB at *
  have hne : (SB != SB) = false := by simp
  by_cases hs : szL szIntS cs ≤ 1048576
  · have hsz := szR_le (s := szL szIntS cs) (left := 1048576) (by omega)
    have hneg : decide ((((1048576 - szL szIntS cs : Nat) : Int)) < 0) = false := decide_eq_false (by omega)
    rw [hsz] at SZ
    generalize ((1048576 - szL szIntS cs : Nat) : Int) = lf at *
    have TN' := hide (fun W h => unhide TN W h hs)
    clear TN hsz hs
    go_enter Try.func3, Try.ntmps3
    go_wp2_with fail
    refine (unhide SZ).mono ?_
    rintro e W1 ⟨rfl, hb1⟩
    have HB1 := hide hb1
    clear hb1
    go_wp2_with fail
    refine (unhide TN' _ (unhide HB1)).mono ?_
    rintro e W2 ⟨⟨v2, rfl, hr2⟩, hb2, _⟩
    have HB2 := hide (btr (unhide HB1) hb2)
    have HR2 := hide (RS.low RIntS.lowers (Nat.zero_le _) hr2)
    obtain ⟨a2, c2, rfl⟩ := hr2.slice
    clear hb2 hr2 HB1
    go_wp2_with fail
    refine (unhide SP _ _ (unhide HR2)).mono ?_
    rintro e W3 ⟨rfl, hb3⟩
    have HB3 := hide (btr (unhide HB2) hb3)
    clear hb3 HB2 HR2
    go_wp2_with fail
    refine (unhide TN' _ (unhide HB3)).mono ?_
    rintro e W4 ⟨⟨v4, rfl, hr4⟩, hb4, _⟩
    have HB4 := hide (btr (unhide HB3) hb4)
    have HR4 := hide (RS.low RIntS.lowers (Nat.zero_le _) hr4)
    obtain ⟨a4, c4, rfl⟩ := hr4.slice
    clear hb4 hr4 HB3
    go_wp2_with fail
    refine (unhide IM _ _ (unhide HR4)).mono ?_
    rintro e W5 ⟨rfl, hb5⟩
    have HB5 := hide (btr (unhide HB4) hb5)
    have HR5 := hide ((unhide HR4).later RIntS.keeps hb5)
    clear hb5 HB4 HR4
    go_wp2_with fail
    refine (unhide TN' _ (unhide HB5)).mono ?_
    rintro e W6 ⟨⟨v6, rfl, hr6⟩, hb6, _⟩
    have HB6 := hide (btr (unhide HB5) hb6)
    have HR46 := hide ((unhide HR5).later RIntS.keeps hb6)
    have HR6 := hide (RS.low RIntS.lowers (Nat.zero_le _) hr6)
    obtain ⟨a6, c6, rfl⟩ := hr6.slice
    clear hb6 hr6 HB5 HR5
    go_wp2_with fail
    refine (eqIntSS_of cs _ _ _ (unhide HR46) (unhide HR6)).mono ?_
    rintro e W7 ⟨rfl, hb7⟩
    have HB7 := hide (btr (unhide HB6) hb7)
    clear hb7 HB6 HR46 HR6
    go_wp2
    exact bodyPost_ret (v := .bool true) (by simp [results, Try.results3, go_sem]) rfl ⟨rfl, unhide HB7⟩
  · have hsz := szR_lt (s := szL szIntS cs) (left := 1048576) (by omega)
    rw [hsz] at SZ
    clear TN
    go_enter Try.func3, Try.ntmps3
    go_wp2_with fail
    refine (unhide SZ).mono ?_
    rintro e W1 ⟨rfl, hb1⟩
    have HB := hide hb1
    clear hb1
    go_wp2
    exact bodyPost_ret (v := .bool true) (by simp [results, Try.results3, go_sem]) rfl ⟨rfl, unhide HB⟩
end Go.Proofs.Ytnoklbnacfmpdaa
