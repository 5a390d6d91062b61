/- The program's Tseitin, in all ways. -/
import Derived.Test.YtnoklbnacfmpdacT10
import Derived.Test.YtnoklbnacfmpdacT4
namespace Go.Proofs.Ytnoklbnacfmpdac
open Go Go.RowKit Gs
set_option linter.unusedVariables false
set_option linter.unusedSimpArgs false
set_option maxRecDepth 100000
theorem CP_nil {w W : World} (h : w.heap.size ≤ W.heap.size) : CP w.heap.size w.heap.size W (.slice none 0 0) [] := ⟨h, [], World.ownsRow_nil _ _ _ _, Nat.le_refl _⟩
set_option maxHeartbeats 6400000 in
theorem iTsBad (s0 s1 s2 s3 s4 s5 : Option Addr) (l0 l1 l2 l3 l4 l5 c0 c1 c2 c3 c4 c5 : Nat) (lit : Int) (w : World) (ok li : Bool) (hl0 : l0 ≤ 1048576) (hl2 : l2 ≤ 1048576) (hl3 : l3 ≤ 1048576) (hbad : (ok && li) = false)
    (hOK : ∀ V, Below w.heap.size w V → Calls Try.prog 26 #[.agg #[.slice s0 l0 c0, .slice s1 l1 c1, .slice s2 l2 c2, .slice s3 l3 c3, .slice s4 l4 c4, .slice s5 l5 c5]] V fun e w' => e = .returned (.bool ok) ∧ Below V.heap.size V w')
    (hLI : litB lit (1 + l0 + l2 + l3) = li) :
    Calls Try.prog 7 #[.agg #[.slice s0 l0 c0, .slice s1 l1 c1, .slice s2 l2 c2, .slice s3 l3 c3, .slice s4 l4 c4, .slice s5 l5 c5], .int .i64 lit] w fun e w' => e = .returned (.tuple #[.int .i64 0, .slice none 0 0, .int .i64 1]) ∧ Below w.heap.size w w' := by
  have HOK := hide hOK
  obtain ⟨N, hN⟩ : ∃ N : Nat, N = 1 + l0 + l2 + l3 := ⟨_, rfl⟩
  have HLI := hide (fun V : World => iLit lit N V (by omega))
  rw [hN, hLI, ← hN] at HLI
  have HFI := hide (fun V : World => iFirst s0 s2 l0 l2 c0 c2 (.slice s1 l1 c1) (.slice s3 l3 c3) (.slice s4 l4 c4) (.slice s5 l5 c5) V hl0 hl2)
  obtain ⟨FA, hF⟩ : ∃ FA : Nat, FA = 1 + l0 + l2 := ⟨_, rfl⟩
  rw [← hF] at HFI
  have hsum : (FA : Int) + (l3 : Int) = (N : Int) := by omega
  have hNb : N ≤ 4194304 := by omega
  clear hOK hLI hN hF
  cases ok with
  | false =>
    go_enter Try.func7, Try.ntmps7
    go_wp2_with fail
    refine (unhide HOK _ (bal (brf w) _)).mono ?_
    rintro e W1 ⟨rfl, hb1⟩
    have HB := hide (btr (bal (brf w) _) hb1)
    clear hb1
    go_wp2
    exact bodyPost_ret (v := .tuple #[.int .i64 0, .slice none 0 0, .int .i64 1]) (by simp [results, Try.results7, go_sem]) rfl ⟨rfl, unhide HB⟩
  | true =>
    have hli : li = false := by simpa using hbad
    subst hli
    clear hbad
    go_enter Try.func7, Try.ntmps7
    go_wp2_with fail
    refine (unhide HOK _ (bal (brf w) _)).mono ?_
    rintro e W1 ⟨rfl, hb1⟩
    have HX1 : Hid (B6 36 w (.slice s0 l0 c0) (.slice s1 l1 c1) (.slice s2 l2 c2) (.slice s3 l3 c3) (.slice s4 l4 c4) (.slice s5 l5 c5) W1) := hide hb1
    clear hb1 HOK
    obtain ⟨q0, q1, q2, q3, q4, q5⟩ := (unhide HX1).get
    go_wp2_with fail
    refine (unhide HFI _).mono ?_
    rintro e W2 ⟨rfl, hb2⟩
    have HX2 := hide ((unhide HX1).then hb2)
    clear hb2 HFI HX1 q0 q1 q2 q3 q4 q5
    have HX3 := hide ((unhide HX2).then (bal (brf W2) (.cells #[.int .i64 (FA : Int)] 3)))
    obtain ⟨q0, q1, q2, q3, q4, q5⟩ := (unhide HX3).get
    go_wp2_with fail
    refine (unhide HLI _).mono ?_
    rintro e W3 ⟨rfl, hw3⟩
    have hw3' := hw3.symm
    subst hw3'
    have HB := hide (unhide HX3).below
    go_wp2
    exact bodyPost_ret (v := .tuple #[.int .i64 0, .slice none 0 0, .int .i64 1]) (by simp [results, Try.results7, go_sem]) rfl ⟨rfl, unhide HB⟩
theorem iTs (x : Aig) (u : List Value) (lit : Int) (w : World) (hl : szAig x ≤ 1048576) (hr : RAig w 0 x u) :
    Calls Try.prog 7 #[.agg u.toArray, .int .i64 lit] w fun e w' => (∃ v E, e = .returned (.tuple #[.int .i64 (tsV x lit), v, .int .i64 (tsK x lit)]) ∧ CP w.heap.size E w' v (tsL x lit)) ∧ Below w.heap.size w w' := by
  have hz : szAig x = szL (fun (s : ByteArray) => s.size) x.ins + szL (fun (s : ByteArray) => s.size) x.clocks + szL szLatch x.latches + szL szAndG x.ands + szL szPin x.outs + szL szPin x.checks := rfl
  have z0 := szL_sm (fun (s : ByteArray) => s.size) x.ins
  have z2 := szL_sm szLatch x.latches
  have z3 := szL_sm szAndG x.ands
  have HOK := hide (fun (V : World) (hb : Below w.heap.size w V) => iAigOK x u V hl (hr.later hb))
  obtain ⟨v0, v1, v2, v3, v4, v5, rfl, r0, r1, r2, r3, r4, r5⟩ := hr
  obtain ⟨s0, c0, rfl⟩ := r0.slice
  obtain ⟨s1, c1, rfl⟩ := r1.slice
  obtain ⟨s2, c2, rfl⟩ := r2.slice
  obtain ⟨s3, c3, rfl⟩ := r3.slice
  obtain ⟨s4, c4, rfl⟩ := r4.slice
  obtain ⟨s5, c5, rfl⟩ := r5.slice
  cases hk : tsOK x lit with
  | false =>
    obtain ⟨t1, t2, t3⟩ := ts_no hk
    rw [t1, t2, t3]
    refine (iTsBad s0 s1 s2 s3 s4 s5 _ _ _ _ _ _ c0 c1 c2 c3 c4 c5 lit w _ _ (by omega) (by omega) (by omega) hk (fun V hb => unhide HOK V hb) rfl).mono ?_
    rintro e w' ⟨rfl, hb⟩
    exact ⟨⟨_, _, rfl, CP_nil hb.size⟩, hb⟩
  | true =>
    obtain ⟨p1, p2, p3⟩ := tsOK_parts hk
    have hfit := Fit.of p1
    rw [p1] at HOK
    have hlb : litB lit (firstN x + x.ands.length) = true := by
      unfold tsOK at hk
      rw [Bool.and_eq_true] at hk
      exact hk.2
    have hc := hfit.cnt
    refine (iTsGood s0 s1 s2 s3 s4 s5 _ _ _ _ _ c0 c1 c2 c3 c4 c5 x.ands lit (firstN x) w (by omega) (by omega) (by omega) r3 rfl (by unfold firstN; omega) hfit.ands p2 p3 (fun V hb => unhide HOK V hb) hlb).mono ?_
    rintro e w' ⟨h1, h2, h3⟩
    cases hm : tsMany x lit with
    | false =>
      obtain ⟨t1, t2, t3⟩ := ts_yes hk hm
      rw [t1, t2, t3]
      exact ⟨h2 hm, h3⟩
    | true =>
      obtain ⟨t1, t2, t3⟩ := ts_many hk hm
      rw [t1, t2, t3]
      exact ⟨⟨_, _, h1 hm, CP_nil h3.size⟩, h3⟩
theorem tsL_len (x : Aig) (lit : Int) : (tsL x lit).length ≤ 8192 := by
  unfold tsL
  split
  · split
    · simp
    · rename_i h
      unfold tsMany at h
      simp at h
      omega
  · simp
theorem tsL_small (x : Aig) (lit : Int) : Small (tsL x lit) := by
  unfold tsL
  split
  · split
    · intro y hy; simp at hy
    · exact tsC_small _ _ _
  · intro y hy; simp at hy
end Go.Proofs.Ytnoklbnacfmpdac
