/- The law. -/
import Derived.Test.YtnoklbnacfmpdabP15
import Derived.Test.YtnoklbnacfmpdabDS
import Derived.Test.YtnoklbnacfmpdabDT
import Derived.Test.YtnoklbnacfmpdabDE
namespace Go.Proofs.Ytnoklbnacfmpdab
open Go Go.RowKit Gs
set_option linter.unusedVariables false
set_option linter.unusedSimpArgs false
set_option maxRecDepth 100000
theorem CQ.is {P : Prop} {e : Ending} (h : CQ P e) : e = .returned (.bool (@decide P (Classical.propDecidable P))) := by
  obtain ⟨b, rfl, hb⟩ := h
  congr 2
  by_cases hp : P
  · rw [hb.2 hp]; simp [hp]
  · have : b = false := by
      cases b with
      | false => rfl
      | true => exact absurd (hb.1 rfl) hp
    rw [this]; simp [hp]
set_option maxHeartbeats 6400000 in
theorem lCheck (vars : Int) (cs tr : List (List Int)) (v u : Value) (w : World) (hr : RS 1 RIntS w 0 cs v) (hu : RS 1 RIntS w 0 tr u) :
    Calls Try.prog 3 #[.int .i64 vars, v, u] w fun e w' => e = .returned (.bool true) ∧ Below w.heap.size w w' := by
  have SZ : Hid (Calls Try.prog 4 #[v, .int .i64 1048576] w fun e w' => e = .returned (.int .i64 (szR (szL szIntS cs) 1048576)) ∧ Below w.heap.size w w') := hide (szIntSS_of cs v w 1048576 (Nat.le_refl _) hr)
  have SZ2 : Hid (∀ W, Below w.heap.size w W → ∀ left : Nat, left ≤ 1048576 → Calls Try.prog 4 #[u, .int .i64 (left : Int)] W fun e w' => e = .returned (.int .i64 (szR (szL szIntS tr) left)) ∧ Below W.heap.size W w') := hide (fun W h left hl => szIntSS_of tr u W left hl (hu.later RIntS.keeps h))
  have TN : Hid (∀ W, Below w.heap.size w W → szL szIntS cs ≤ 1048576 → Calls Try.prog 6 #[v] W fun e w' => (∃ v', e = .returned v' ∧ RS 1 RIntS w' W.heap.size cs v') ∧ Below W.heap.size W w' ∧ NF W.heap.size w') := hide (fun W h hl => toIntSS_of cs v W hl (hr.later RIntS.keeps h))
  have TU : Hid (∀ W, Below w.heap.size w W → szL szIntS tr ≤ 1048576 → Calls Try.prog 6 #[u] W fun e w' => (∃ v', e = .returned v' ∧ RS 1 RIntS w' W.heap.size tr v') ∧ Below W.heap.size W w' ∧ NF W.heap.size w') := hide (fun W h hl => toIntSS_of tr u W hl (hu.later RIntS.keeps h))
  have SP : Hid (∀ W v' u', RS 1 RIntS W 0 cs v' → RS 1 RIntS W 0 tr u' → Calls Try.prog 5 #[.int .i64 vars, v', u'] W fun e w' => e = .returned (.bool (@decide (CTP vars cs tr) (Classical.propDecidable _))) ∧ Below W.heap.size W w') := hide (fun W v' u' h h2 => (sCheck vars cs tr v' u' W h h2).mono (fun e w' k => ⟨k.1.is, k.2⟩))
  have IM : Hid (∀ W v' u', RS 1 RIntS W 0 cs v' → RS 1 RIntS W 0 tr u' → Calls Try.prog 7 #[.int .i64 vars, v', u'] W fun e w' => e = .returned (.bool (@decide (CTP vars cs tr) (Classical.propDecidable _))) ∧ Below W.heap.size W w') := hide (fun W v' u' h h2 => (iCheck vars cs tr v' u' W h h2).mono (fun e w' k => ⟨k.1.is, k.2⟩))
  obtain ⟨a, c, rfl⟩ := hr.slice
  obtain ⟨ua, uc, rfl⟩ := hu.slice
  clear hr hu
  generalize @decide (CTP vars cs tr) (Classical.propDecidable _) = SB at *
  have hne : (SB != SB) = false := by simp
  by_cases hs : szL szIntS cs ≤ 1048576
  · have hsz := szR_le (s := szL szIntS cs) (left := 1048576) (by omega)
    rw [hsz] at SZ
    obtain ⟨lf, hlf⟩ : ∃ lf : Nat, lf = 1048576 - szL szIntS cs := ⟨_, rfl⟩
    rw [← hlf] at SZ
    have hneg : decide ((lf : Int) < 0) = false := decide_eq_false (by omega)
    have TN' := hide (fun W h => unhide TN W h hs)
    have SZ2' := hide (fun W h => unhide SZ2 W h lf (by omega))
    clear TN hsz SZ2
    by_cases hs2 : szL szIntS tr ≤ lf
    · have hsz2 := szR_le (s := szL szIntS tr) (left := lf) (by omega)
      rw [hsz2] at SZ2'
      obtain ⟨lg, hlg⟩ : ∃ lg : Nat, lg = lf - szL szIntS tr := ⟨_, rfl⟩
      rw [← hlg] at SZ2'
      have hneg2 : decide ((lg : Int) < 0) = false := decide_eq_false (by omega)
      have TU' := hide (fun W h => unhide TU W h (by omega))
      clear TU hsz2 hs hs2 hlf hlg
      go_enter Try.func3, Try.ntmps3
      go_wp2_with fail
      refine (unhide SZ).mono ?_
      rintro e W1 ⟨rfl, hb1⟩
      have HB1 := hide hb1
      clear hb1
      go_wp2_with fail
      refine (unhide SZ2' _ (unhide HB1)).mono ?_
      rintro e W1b ⟨rfl, hb1⟩
      have HB1b := hide (btr (unhide HB1) hb1)
      clear hb1 HB1
      go_wp2_with fail
      refine (unhide TN' _ (unhide HB1b)).mono ?_
      rintro e W2 ⟨⟨v2, rfl, hr2⟩, hb2, _⟩
      have HB2 := hide (btr (unhide HB1b) hb2)
      have HR2 := hide (RS.low RIntS.lowers (Nat.zero_le _) hr2)
      obtain ⟨a2, c2, rfl⟩ := hr2.slice
      clear hb2 hr2 HB1b
      go_wp2_with fail
      refine (unhide TU' _ (unhide HB2)).mono ?_
      rintro e W2b ⟨⟨u2, rfl, hu2⟩, hb2, _⟩
      have HB2b := hide (btr (unhide HB2) hb2)
      have HR2b := hide ((unhide HR2).later RIntS.keeps hb2)
      have HU2 := hide (RS.low RIntS.lowers (Nat.zero_le _) hu2)
      obtain ⟨ua2, uc2, rfl⟩ := hu2.slice
      clear hb2 hu2 HB2 HR2
      go_wp2_with fail
      refine (unhide SP _ _ _ (unhide HR2b) (unhide HU2)).mono ?_
      rintro e W3 ⟨rfl, hb3⟩
      have HB3 := hide (btr (unhide HB2b) hb3)
      clear hb3 HB2b HR2b HU2
      go_wp2_with fail
      refine (unhide TN' _ (unhide HB3)).mono ?_
      rintro e W4 ⟨⟨v4, rfl, hr4⟩, hb4, _⟩
      have HB4 := hide (btr (unhide HB3) hb4)
      have HR4 := hide (RS.low RIntS.lowers (Nat.zero_le _) hr4)
      obtain ⟨a4, c4, rfl⟩ := hr4.slice
      clear hb4 hr4 HB3
      go_wp2_with fail
      refine (unhide TU' _ (unhide HB4)).mono ?_
      rintro e W4b ⟨⟨u4, rfl, hu4⟩, hb4, _⟩
      have HB4b := hide (btr (unhide HB4) hb4)
      have HR4b := hide ((unhide HR4).later RIntS.keeps hb4)
      have HU4 := hide (RS.low RIntS.lowers (Nat.zero_le _) hu4)
      obtain ⟨ua4, uc4, rfl⟩ := hu4.slice
      clear hb4 hu4 HB4 HR4
      go_wp2_with fail
      refine (unhide IM _ _ _ (unhide HR4b) (unhide HU4)).mono ?_
      rintro e W5 ⟨rfl, hb5⟩
      have HB5 := hide (btr (unhide HB4b) hb5)
      have HR5 := hide ((unhide HR4b).later RIntS.keeps hb5)
      have HU5 := hide ((unhide HU4).later RIntS.keeps hb5)
      clear hb5 HB4b HR4b HU4
      go_wp2_with fail
      refine (unhide TN' _ (unhide HB5)).mono ?_
      rintro e W6 ⟨⟨v6, rfl, hr6⟩, hb6, _⟩
      have HB6 := hide (btr (unhide HB5) hb6)
      have HR56 := hide ((unhide HR5).later RIntS.keeps hb6)
      have HU6 := hide ((unhide HU5).later RIntS.keeps hb6)
      have HR6 := hide (RS.low RIntS.lowers (Nat.zero_le _) hr6)
      obtain ⟨a6, c6, rfl⟩ := hr6.slice
      clear hb6 hr6 HB5 HR5 HU5
      go_wp2_with fail
      refine (eqIntSS_of cs _ _ _ (unhide HR56) (unhide HR6)).mono ?_
      rintro e W7 ⟨rfl, hb7⟩
      have HB7 := hide (btr (unhide HB6) hb7)
      have HU7 := hide ((unhide HU6).later RIntS.keeps hb7)
      clear hb7 HB6 HR56 HR6 HU6
      go_wp2_with fail
      refine (unhide TU' _ (unhide HB7)).mono ?_
      rintro e W8 ⟨⟨u8, rfl, hu8⟩, hb8, _⟩
      have HB8 := hide (btr (unhide HB7) hb8)
      have HU78 := hide ((unhide HU7).later RIntS.keeps hb8)
      have HU8 := hide (RS.low RIntS.lowers (Nat.zero_le _) hu8)
      obtain ⟨ua8, uc8, rfl⟩ := hu8.slice
      clear hb8 hu8 HB7 HU7
      go_wp2_with fail
      refine (eqIntSS_of tr _ _ _ (unhide HU78) (unhide HU8)).mono ?_
      rintro e W9 ⟨rfl, hb9⟩
      have HB9 := hide (btr (unhide HB8) hb9)
      clear hb9 HB8 HU78 HU8
      go_wp2
      exact bodyPost_ret (v := .bool true) (by simp [results, Try.results3, go_sem]) rfl ⟨rfl, unhide HB9⟩
    · have hsz2 := szR_lt (s := szL szIntS tr) (left := lf) (by omega)
      rw [hsz2] at SZ2'
      clear TU hsz2 hs hs2 hlf TN'
      go_enter Try.func3, Try.ntmps3
      go_wp2_with fail
      refine (unhide SZ).mono ?_
      rintro e W1 ⟨rfl, hb1⟩
      have HB1 := hide hb1
      clear hb1
      go_wp2_with fail
      refine (unhide SZ2' _ (unhide HB1)).mono ?_
      rintro e W1b ⟨rfl, hb1⟩
      have HB1b := hide (btr (unhide HB1) hb1)
      clear hb1 HB1
      go_wp2
      exact bodyPost_ret (v := .bool true) (by simp [results, Try.results3, go_sem]) rfl ⟨rfl, unhide HB1b⟩
  · have hsz := szR_lt (s := szL szIntS cs) (left := 1048576) (by omega)
    rw [hsz] at SZ
    clear TN TU SZ2
    go_enter Try.func3, Try.ntmps3
    go_wp2_with fail
    refine (unhide SZ).mono ?_
    rintro e W1 ⟨rfl, hb1⟩
    have HB := hide hb1
    clear hb1
    go_wp2
    exact bodyPost_ret (v := .bool true) (by simp [results, Try.results3, go_sem]) rfl ⟨rfl, unhide HB⟩
end Go.Proofs.Ytnoklbnacfmpdab
