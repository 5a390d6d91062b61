/- The program's MapRun. -/
import Derived.Test.YthbcokioijpofabGreatGm
import Derived.Test.YthbcokioijpofabGreatGt
import Derived.Test.YthbcokioijpofabGreatQ10
import Derived.Test.YthbcokioijpofabGreatGu
namespace Go.Proofs.YthbcokioijpofabGreat
open Go Go.RowKit Gs
set_option linter.unusedVariables false
set_option linter.unusedSimpArgs false
set_option maxRecDepth 100000
theorem szMapped_parts {x : Mapped} (h : szMapped x ≤ 1048576) : x.ins.length ≤ 1048576 ∧ x.clocks.length ≤ 1048576 ∧ x.regs.length ≤ 1048576 ∧ x.luts.length ≤ 1048576 ∧ x.outs.length ≤ 1048576 ∧ x.checks.length ≤ 1048576 := by
  have hz : szMapped x = szL (fun (s : ByteArray) => s.size) x.ins + szL (fun (s : ByteArray) => s.size) x.clocks + szL szMapReg x.regs + szL szLut x.luts + szL szPort x.outs + szL szPort x.checks := rfl
  have z0 := szL_sm (fun (s : ByteArray) => s.size) x.ins
  have z1 := szL_sm (fun (s : ByteArray) => s.size) x.clocks
  have z2 := szL_sm szMapReg x.regs
  have z3 := szL_sm szLut x.luts
  have z4 := szL_sm szPort x.outs
  have z5 := szL_sm szPort x.checks
  omega
theorem plB_true {x : Int} {n : Nat} (h : plB x n = true) : 0 ≤ x ∧ x < (n : Int) := by
  unfold plB at h; simpa using h
theorem LO4_of (xs : List Lut) (f : Nat) (h : lutsB f xs = true) : LO4 f xs := by
  intro k l hk
  have hlt : k < xs.length := (List.getElem?_eq_some_iff.1 hk).1
  have hb := upB_at h hlt
  rw [lutAt_at hk] at hb
  unfold lutB at hb
  simp only [Bool.and_eq_true, decide_eq_true_eq] at hb
  obtain ⟨b1, b2, b3, b4⟩ := hb
  have := tmask_lt b1
  refine ⟨b1, b2, by omega, fun j y hj => ?_⟩
  have hi := upB_at b4 (List.getElem?_eq_some_iff.1 hj).1
  rw [inAt_at hj] at hi
  rw [Bool.and_eq_true] at hi
  exact plB_true hi.1
theorem MapFit.of {x : Mapped} (h : mapI x = true) : MapFit x := by
  unfold mapI at h
  rw [Bool.and_eq_true, Bool.and_eq_true, Bool.and_eq_true] at h
  obtain ⟨⟨⟨h1, h2⟩, h3⟩, _⟩ := h
  unfold srcsB at h2
  rw [Bool.and_eq_true] at h2
  unfold countsA countsN at h1
  simp only [Bool.and_eq_true, decide_eq_true_eq] at h1
  have hl := List.all_eq_true.1 h2.2
  refine ⟨by omega, by omega, by omega, by omega, by omega, fun l hm => ?_, fun l hm => ?_, fun l hm => ?_, LO4_of _ _ h2.1, fun p hm => ?_, fun p hm => ?_⟩
  · exact plB_true (hl l.src (List.mem_append_right _ (List.mem_append_right _ (List.mem_map_of_mem hm))))
  · have := List.all_eq_true.1 h3 l hm
    unfold latchB at this
    simp only [Bool.and_eq_true, decide_eq_true_eq] at this
    omega
  · have := List.all_eq_true.1 h3 l hm
    unfold latchB at this
    simp only [Bool.and_eq_true, decide_eq_true_eq] at this
    exact this.2
  · exact plB_true (hl p.src (List.mem_append_left _ (List.mem_map_of_mem hm)))
  · exact plB_true (hl p.src (List.mem_append_right _ (List.mem_append_left _ (List.mem_map_of_mem hm))))
/-- What both answer: the rows and the code. -/
def st0M (x : Mapped) : List Bool := x.regs.map (fun l : MapReg => l.init == 1)
def runM (x : Mapped) (steps : List Step) : List Row × Int :=
  if steps.length ≤ 4096 then (if mapI x && steps.all (stepB x.ins.length x.clocks.length) then (rowsV x (st0M x) steps, 0) else ([], 1)) else ([], 2)
theorem rowsV_len (x : Mapped) : ∀ (steps : List Step) (st : List Bool), (rowsV x st steps).length = steps.length
  | [], _ => rfl
  | s :: r, st => by rw [rowsV, List.length_cons, rowsV_len x r, List.length_cons]
theorem in_txt {v : ByteArray} (h : inB v = true) : v = txt1 (bit1 v) := by
  unfold inB at h
  simp only [Bool.and_eq_true, decide_eq_true_eq] at h
  obtain ⟨⟨_, hk⟩, hs⟩ := h
  obtain ⟨d⟩ := v
  obtain ⟨c, rfl⟩ : ∃ c, d = #[c] := by
    have hs' : d.size = 1 := hs
    exact ⟨d[0], by apply Array.ext <;> simp [hs']; intro i hi; simp [hi]⟩
  have hc : Vb.knB c = true := List.all_eq_true.1 hk c (by simp [L])
  unfold Vb.knB at hc
  simp at hc
  rcases hc with rfl | rfl
  · have : bit1 ⟨#[48]⟩ = false := by decide +kernel
    rw [this]; rfl
  · have : bit1 ⟨#[49]⟩ = true := by decide +kernel
    rw [this]; rfl
theorem stepB_fit {x : Mapped} {s : Step} (h : stepB x.ins.length x.clocks.length s = true) : StepFit x s := by
  unfold stepB at h
  simp only [Bool.and_eq_true, decide_eq_true_eq] at h
  exact ⟨h.1.1, h.1.2, fun y hy => in_txt (List.all_eq_true.1 h.2 y hy)⟩
theorem RowsO.low0 {W : World} {B E B' : Nat} {us : List (Value × Value × Value)} {rs : List Row} (h : RowsO W B E us rs) (hB : B' ≤ B) : ∃ E', RowsO W B' E' us rs ∧ E' ≤ E := by
  induction h with
  | nil => exact ⟨B', .nil _, hB⟩
  | snoc h h1 h2 h3 o1 b1 o2 b2 o3 b3 ih =>
    obtain ⟨E', k, hE⟩ := ih
    exact ⟨_, .snoc k (Nat.le_trans hE h1) h2 h3 (o1.low hE) b1 o2 b2 o3 b3, Nat.le_refl _⟩
theorem RowsO.low {W : World} {B E B' S : Nat} {us : List (Value × Value × Value)} {rs : List Row} (h : RowsO W B E us rs) (hE : E ≤ S) (hB : B' ≤ B) : ∃ E', RowsO W B' E' us rs ∧ E' ≤ S := by
  obtain ⟨E', k, hk⟩ := h.low0 hB
  exact ⟨E', k, Nat.le_trans hk hE⟩
set_option maxHeartbeats 16000000 in
theorem iMapRun (x : Mapped) (u : List Value) (steps : List Step) (sv : Value) (w : World) (hl : szMapped x ≤ 1048576) (hr : RMapped w 0 x u) (hs : RS 2 RStep w 0 steps sv) (hsl : steps.length ≤ 1048576) :
    Calls Tryz.prog 9 #[.agg u.toArray, sv] w fun e w' => (∃ v us E, e = .returned (.tuple #[v, .int .i64 (runM x steps).2]) ∧ w'.ownsRow w.heap.size 74 3 v (runM x steps).1.length (rcs us) ∧ RowsO w' w.heap.size E us (runM x steps).1 ∧ E ≤ w'.heap.size) ∧ Below w.heap.size w w' := by
  have HOK := hide (fun (V : World) (hb : Below w.heap.size w V) => iMapOK x u V hl (hr.later hb))
  have HRA := hide hr
  obtain ⟨b0, b1, b2, b3, b4, b5⟩ := szMapped_parts hl
  obtain ⟨v0, v1, v2, v3, v4, v5, rfl, h0, h1, h2, h3, h4, h5⟩ := hr
  obtain ⟨s0, c0, e0⟩ := h0.slice
  obtain ⟨s1, c1, e1⟩ := h1.slice
  obtain ⟨s2, c2, e2⟩ := h2.slice
  obtain ⟨s3, c3, e3⟩ := h3.slice
  obtain ⟨s4, c4, e4⟩ := h4.slice
  obtain ⟨s5, c5, e5⟩ := h5.slice
  subst e0 e1 e2 e3 e4 e5
  clear h0 h1 h3 h4 h5
  have HS := hide hs
  have H2 := hide h2
  obtain ⟨sa, sc, rfl⟩ := hs.slice
  clear hs h2
  show Calls Tryz.prog 9 #[.agg #[.slice s0 x.ins.length c0, .slice s1 x.clocks.length c1, .slice s2 x.regs.length c2, .slice s3 x.luts.length c3, .slice s4 x.outs.length c4, .slice s5 x.checks.length c5], .slice sa steps.length sc] w _
  change Hid (∀ (V : World), Below w.heap.size w V → Calls Tryz.prog 32 #[.agg #[.slice s0 x.ins.length c0, .slice s1 x.clocks.length c1, .slice s2 x.regs.length c2, .slice s3 x.luts.length c3, .slice s4 x.outs.length c4, .slice s5 x.checks.length c5]] V _) at HOK
  by_cases hlong : steps.length ≤ 4096
  · have hd : decide ((4096 : Int) < (steps.length : Int)) = false := decide_eq_false (by omega)
    cases hok : mapI x
    · have HR : Hid (runM x steps = ([], 1)) := hide (by unfold runM; rw [if_pos hlong, hok]; rfl)
      rw [hok] at HOK
      clear hok HRA HS H2
      go_enter Tryz.func9, Tryz.ntmps9
      go_wp2_with fail
      refine (unhide HOK _ (bal (brf w) _)).mono ?_
      rintro e W1 ⟨rfl, hb1⟩
      have HB := hide (btr (bal (brf w) _) hb1)
      clear hb1
      go_wp2_with fail
      exact bodyPost_ret (v := .tuple #[.slice none 0 0, .int .i64 1]) (by simp [results, Tryz.results9, go_sem]) rfl ⟨⟨_, [], w.heap.size, by rw [unhide HR], by rw [unhide HR]; exact World.ownsRow_nil _ _ _ _, by rw [unhide HR]; exact .nil _, (unhide HB).size⟩, unhide HB⟩
    · have hfit := MapFit.of hok
      rw [hok] at HOK
      have HFIT := hide hfit
      have HC : Hid (∀ V, Below (w.alloc (.cells #[.slice s0 x.ins.length c0, .slice s1 x.clocks.length c1, .slice s2 x.regs.length c2, .slice s3 x.luts.length c3, .slice s4 x.outs.length c4, .slice s5 x.checks.length c5] 38)).heap.size (w.alloc (.cells #[.slice s0 x.ins.length c0, .slice s1 x.clocks.length c1, .slice s2 x.regs.length c2, .slice s3 x.luts.length c3, .slice s4 x.outs.length c4, .slice s5 x.checks.length c5] 38)) V → B6 38 w (.slice s0 x.ins.length c0) (.slice s1 x.clocks.length c1) (.slice s2 x.regs.length c2) (.slice s3 x.luts.length c3) (.slice s4 x.outs.length c4) (.slice s5 x.checks.length c5) V) := hide (fun V h => h)
      clear hfit
      go_enter Tryz.func9, Tryz.ntmps9
      go_wp2_with fail
      refine (unhide HOK _ (bal (brf w) _)).mono ?_
      rintro e W1 ⟨rfl, hb1⟩
      have HX1 := hide (unhide HC _ hb1)
      obtain ⟨q0, q1, q2, q3, q4, q5⟩ := (unhide HX1).get
      clear hb1
      have HRP := hide (iRepeat W1.heap.size x.ins.length (W1.alloc (.cells #[.int .i64 1] 3)) b0 (by rw [World.cell?_alloc_new]; rfl))
      have kq : (W1.alloc (.cells #[.int .i64 1] 3)).cell? ⟨w.heap.size, 0, none⟩ = some (.slice s0 x.ins.length c0) := cell_later (bal (brf W1) _) q0
      go_wp2_with fail
      refine (unhide HRP).mono ?_
      rintro e W2 ⟨⟨wv, rfl, hwv⟩, hb2⟩
      have HX2 := hide ((unhide HX1).then (btr (bal (brf W1) _) hb2))
      have HSF := hide (iStepsFit (n1 := x.clocks.length) steps (.slice sa steps.length sc) wv ((unhide HS).later RStep.keeps (unhide HX2).below) hlong hwv b0 b1)
      clear hb2 hwv q0 q1 q2 q3 q4 q5 kq HRP
      obtain ⟨q0, q1, q2, q3, q4, q5⟩ := (unhide HX2).get
      cases hall : steps.all (stepB x.ins.length x.clocks.length)
      · have HR : Hid (runM x steps = ([], 1)) := hide (by unfold runM; rw [if_pos hlong, hok, hall]; rfl)
        rw [hall] at HSF
        clear hok hall
        go_wp2_with fail
        refine (unhide HSF).mono ?_
        rintro e W3 ⟨rfl, hb3⟩
        have HB := hide ((unhide HX2).then hb3).below
        clear hb3
        go_wp2_with fail
        exact bodyPost_ret (v := .tuple #[.slice none 0 0, .int .i64 1]) (by simp [results, Tryz.results9, go_sem]) rfl ⟨⟨_, [], w.heap.size, by rw [unhide HR], by rw [unhide HR]; exact World.ownsRow_nil _ _ _ _, by rw [unhide HR]; exact .nil _, (unhide HB).size⟩, unhide HB⟩
      · have HR : Hid (runM x steps = (rowsV x (st0M x) steps, 0)) := hide (by unfold runM; rw [if_pos hlong, hok, hall]; rfl)
        have HFS : Hid (∀ s ∈ steps, StepFit x s) := hide (fun s hs => stepB_fit (List.all_eq_true.1 hall s hs))
        rw [hall] at HSF
        clear hok hall
        go_wp2_with fail
        refine (unhide HSF).mono ?_
        rintro e W3 ⟨rfl, hb3⟩
        have HX3 := hide ((unhide HX2).then hb3)
        clear hb3 q0 q1 q2 q3 q4 q5
        obtain ⟨q0, q1, q2, q3, q4, q5⟩ := (unhide HX3).get
        have HNR := hide (iNewRun s0 s1 s2 s3 s4 s5 x.ins.length x.clocks.length x.regs.length x.luts.length x.outs.length x.checks.length c0 c1 c2 c3 c4 c5 x.regs W3 ((unhide H2).later RMapReg.keeps (unhide HX3).below) b0 b2 b3 (unhide HFIT).init)
        go_wp2_with fail
        refine (unhide HNR).mono ?_
        rintro e W4 ⟨bb, gg, rfl, hob, hb4⟩
        have HX4 := hide ((unhide HX3).then hb4)
        have HB4 := hide hb4
        have HRS := hide (iRunSteps (W0 := W3) (W := W4) x (unhide HFIT) ((unhide HRA).later (unhide HX3).below) steps (.slice sa steps.length sc) ((unhide HS).later RStep.keeps (unhide HX3).below) hlong (unhide HFS) hb4 (List.replicate x.ins.length false) (st0M x) (List.replicate x.luts.length false) (by simp) (by unfold st0M; simp) (by simp) hob)
        clear hob hb4 q0 q1 q2 q3 q4 q5
        go_wp2_with fail
        refine (unhide HRS).mono ?_
        rintro e W5 ⟨⟨v, us, E, rfl, ho, hro, hE⟩, hb5, hfx⟩
        have hsz := ((unhide HX4).below).size
        have hB5 : Below w.heap.size w W5 := btr (unhide HX3).below hb5
        have hrl : (rowsV x (st0M x) steps).length = steps.length := rowsV_len x steps _
        have HF : Hid (W5.ownsRow w.heap.size 74 3 v (rowsV x (st0M x) steps).length (rcs us) ∧ (∃ E, RowsO W5 w.heap.size E us (rowsV x (st0M x) steps) ∧ E ≤ W5.heap.size)) := hide ⟨by
          rw [hrl]
          obtain ⟨k1, k2 | ⟨g, cap, cur, hv, hg, rest⟩⟩ := ho
          · exact ⟨k1, .inl k2⟩
          · exact ⟨k1, .inr ⟨g, cap, cur, hv, by omega, rest⟩⟩, by
          exact RowsO.low hro hE hsz⟩
        have HB5 := hide hB5
        clear ho hro hE hb5 hfx hsz hB5 hrl
        go_wp2_with fail
        exact bodyPost_ret (v := .tuple #[v, .int .i64 0]) (by simp [results, Tryz.results9, go_sem]) rfl ⟨by
          obtain ⟨k1, E', k2, k3⟩ := unhide HF
          exact ⟨_, us, E', by rw [unhide HR], by rw [unhide HR]; exact k1, by rw [unhide HR]; exact k2, k3⟩, unhide HB5⟩
  · have hd : decide ((4096 : Int) < (steps.length : Int)) = true := decide_eq_true (by omega)
    have HR : Hid (runM x steps = ([], 2)) := hide (by unfold runM; rw [if_neg hlong])
    clear HRA HS H2 HOK
    go_enter Tryz.func9, Tryz.ntmps9
    go_wp2_with fail
    exact bodyPost_ret (v := .tuple #[.slice none 0 0, .int .i64 2]) (by simp [results, Tryz.results9, go_sem]) rfl ⟨⟨_, [], w.heap.size, by rw [unhide HR], by rw [unhide HR]; exact World.ownsRow_nil _ _ _ _, by rw [unhide HR]; exact .nil _, (bal (brf w) _).size⟩, bal (brf w) _⟩
end Go.Proofs.YthbcokioijpofabGreat
