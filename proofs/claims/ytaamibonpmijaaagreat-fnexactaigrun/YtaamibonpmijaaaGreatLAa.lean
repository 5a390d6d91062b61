/- Both answer the same; the law: and what was handed in reads as it did. -/
import Derived.Test.YtaamibonpmijaaaGreatAI
import Derived.Test.YtaamibonpmijaaaGreatSA
import Derived.Test.YtaamibonpmijaaaGreatDS
import Derived.Test.YtaamibonpmijaaaGreatDT
import Derived.Test.YtaamibonpmijaaaGreatDE
import Derived.Test.YtaamibonpmijaaaGreatQd
import Derived.Test.YtaamibonpmijaaaGreatQ10
import Derived.Test.YtaamibonpmijaaaGreatQ16
namespace Go.Proofs.YtaamibonpmijaaaGreat
open Go Go.RowKit Gs
set_option linter.unusedVariables false
set_option linter.unusedSimpArgs false
set_option maxRecDepth 100000
theorem latS_all (VV n1 : Nat) (ls : List Latch) : ls.all (latS VV n1) = ((ls.map (fun l : Latch => l.next)).all (fun e => litB e VV) && ls.all (latchB n1)) := by
  induction ls with
  | nil => rfl
  | cons l r ih =>
    rw [List.all_cons, List.map_cons, List.all_cons, List.all_cons, ih]
    unfold latS
    cases litB l.next VV <;> cases latchB n1 l <;> simp
theorem pins_all (VV : Nat) (ps : List Pin) : (ps.map (fun p : Pin => p.lit)).all (fun e => litB e VV) = ps.all (fun p : Pin => litB p.lit VV) := by
  rw [List.all_map]; rfl
theorem aig_same (a : Aig) : aigI a = aigS a := by
  unfold aigI aigS litsB nameLs pinsB varsA
  rw [List.all_append, List.all_append, latS_all, pins_all, pins_all]
  simp only [List.all_cons, List.all_nil]
  generalize countsA a = c1
  generalize andsB _ a.ands = c2
  generalize a.outs.all _ = c3
  generalize a.checks.all _ = c4
  generalize List.all (List.map (fun l : Latch => l.next) a.latches) _ = c5
  generalize a.latches.all _ = c6
  generalize namesB (a.ins ++ a.clocks) = c7
  generalize namesB (a.latches.map _) = c8
  generalize namesB (a.outs.map _) = c9
  generalize namesB (a.checks.map _) = c10
  cases c1 <;> cases c2 <;> cases c3 <;> cases c4 <;> cases c5 <;> cases c6 <;> cases c7 <;> cases c8 <;> cases c9 <;> cases c10 <;> rfl
theorem RAig.later {n : Aig} {u : List Value} {w W : World} {B : Nat} (h : RAig w B n u) (hb : Below w.heap.size w W) : RAig W B n u := RAig.keeps _ _ _ _ _ (later_cells hb B) h
theorem RAig.any {n : Aig} {u : List Value} {w : World} {B : Nat} (h : RAig w B n u) : RAig w 0 n u := RAig.lowers _ _ _ _ _ (Nat.zero_le _) h
/-- A world behind one that boxed six cells. -/
def B6 (t : TypeId) (w : World) (y0 y1 y2 y3 y4 y5 : Value) (V : World) : Prop := Below (w.alloc (.cells #[y0, y1, y2, y3, y4, y5] t)).heap.size (w.alloc (.cells #[y0, y1, y2, y3, y4, y5] t)) V
theorem B6.get {t : TypeId} {w : World} {y0 y1 y2 y3 y4 y5 : Value} {V : World} (h : B6 t w y0 y1 y2 y3 y4 y5 V) : V.cell? ⟨w.heap.size, 0, none⟩ = some y0 ∧ V.cell? ⟨w.heap.size, 1, none⟩ = some y1 ∧ V.cell? ⟨w.heap.size, 2, none⟩ = some y2 ∧ V.cell? ⟨w.heap.size, 3, none⟩ = some y3 ∧ V.cell? ⟨w.heap.size, 4, none⟩ = some y4 ∧ V.cell? ⟨w.heap.size, 5, none⟩ = some y5 :=
  ⟨cell_later h (by rw [World.cell?_alloc_new]; rfl), cell_later h (by rw [World.cell?_alloc_new]; rfl), cell_later h (by rw [World.cell?_alloc_new]; rfl), cell_later h (by rw [World.cell?_alloc_new]; rfl), cell_later h (by rw [World.cell?_alloc_new]; rfl), cell_later h (by rw [World.cell?_alloc_new]; rfl)⟩
theorem B6.then {t : TypeId} {w : World} {y0 y1 y2 y3 y4 y5 : Value} {V U : World} (h : B6 t w y0 y1 y2 y3 y4 y5 V) (hb : Below V.heap.size V U) : B6 t w y0 y1 y2 y3 y4 y5 U := btr h hb
theorem B6.below {t : TypeId} {w : World} {y0 y1 y2 y3 y4 y5 : Value} {V : World} (h : B6 t w y0 y1 y2 y3 y4 y5 V) : Below w.heap.size w V := btr (bal (brf w) _) h
end Go.Proofs.YtaamibonpmijaaaGreat
namespace Go.Proofs.YtaamibonpmijaaaGreat
open Go Go.RowKit Gs
set_option linter.unusedVariables false
set_option linter.unusedSimpArgs false
set_option maxRecDepth 100000
theorem szAig_parts {x : Aig} (h : szAig x ≤ 1048576) : x.ins.length ≤ 1048576 ∧ x.clocks.length ≤ 1048576 ∧ x.latches.length ≤ 1048576 ∧ x.ands.length ≤ 1048576 ∧ x.outs.length ≤ 1048576 ∧ x.checks.length ≤ 1048576 := by
  have hz : szAig x = szL (fun (s : ByteArray) => s.size) x.ins + szL (fun (s : ByteArray) => s.size) x.clocks + szL szLatch x.latches + szL szAndG x.ands + szL szPin x.outs + szL szPin x.checks := rfl
  have z0 := szL_sm (fun (s : ByteArray) => s.size) x.ins
  have z1 := szL_sm (fun (s : ByteArray) => s.size) x.clocks
  have z2 := szL_sm szLatch x.latches
  have z3 := szL_sm szAndG x.ands
  have z4 := szL_sm szPin x.outs
  have z5 := szL_sm szPin x.checks
  omega
theorem litB_true {x : Int} {n : Nat} (h : litB x n = true) : 0 ≤ x ∧ x < 2 * (n : Int) := by
  unfold litB at h; simpa using h
theorem AO_of : ∀ (xs : List AndG) (f : Nat), andsB f xs = true → AO f xs := by
  intro xs f h i x hx
  have h1 : andsB f (xs.take (i + 1)) = true := by
    cases e : andsB f (xs.take (i + 1)) with
    | true => rfl
    | false => rw [andsB_mono xs f (i + 1) e] at h; cases h
  rw [andsB_take xs f i x hx, Bool.and_eq_true, Bool.and_eq_true] at h1
  obtain ⟨_, h2, h3⟩ := h1
  have h2 := litB_true h2
  have h3 := litB_true h3
  exact ⟨h2.1, h2.2, h3.1, h3.2⟩
theorem AigFit.of {x : Aig} (h : aigI x = true) : AigFit x := by
  unfold aigI at h
  rw [Bool.and_eq_true, Bool.and_eq_true, Bool.and_eq_true] at h
  obtain ⟨⟨⟨h1, h2⟩, h3⟩, _⟩ := h
  unfold litsB at h2
  rw [Bool.and_eq_true] at h2
  unfold countsA countsN at h1
  simp only [Bool.and_eq_true, decide_eq_true_eq] at h1
  have hl := List.all_eq_true.1 h2.2
  refine ⟨by omega, by omega, by omega, by omega, by omega, fun l hm => ?_, fun l hm => ?_, AO_of _ _ h2.1, fun p hm => ?_, fun p hm => ?_⟩
  · exact litB_true (hl l.next (List.mem_append_right _ (List.mem_append_right _ (List.mem_map_of_mem hm))))
  · have := List.all_eq_true.1 h3 l hm
    unfold latchB at this
    simp only [Bool.and_eq_true, decide_eq_true_eq] at this
    exact this.2
  · exact litB_true (hl p.lit (List.mem_append_left _ (List.mem_map_of_mem hm)))
  · exact litB_true (hl p.lit (List.mem_append_right _ (List.mem_append_left _ (List.mem_map_of_mem hm))))
theorem AigFit.init {x : Aig} (h : aigI x = true) : ∀ l ∈ x.latches, l.init = 0 ∨ l.init = 1 := by
  intro l hm
  unfold aigI at h
  rw [Bool.and_eq_true, Bool.and_eq_true, Bool.and_eq_true] at h
  have := List.all_eq_true.1 h.1.2 l hm
  unfold latchB at this
  simp only [Bool.and_eq_true, decide_eq_true_eq] at this
  omega
/-- What both answer: the rows and the code. -/
def st0A (x : Aig) : List Bool := x.latches.map (fun l : Latch => l.init == 1)
def runA (x : Aig) (steps : List Step) : List Row × Int :=
  if steps.length ≤ 4096 then (if aigI x && steps.all (stepB x.ins.length x.clocks.length) then (rowsV x (st0A x) steps, 0) else ([], 1)) else ([], 2)
theorem rowsV_len (x : Aig) : ∀ (steps : List Step) (st : List Bool), (rowsV x st steps).length = steps.length
  | [], _ => rfl
  | s :: r, st => by rw [rowsV, List.length_cons, rowsV_len x r, List.length_cons]
theorem stepB_fit {x : Aig} {s : Step} (h : stepB x.ins.length x.clocks.length s = true) : StepFit x s := by
  unfold stepB at h
  simp only [Bool.and_eq_true, decide_eq_true_eq] at h
  exact h.1
theorem RowsO.low0 {W : World} {B E B' : Nat} {us : List (Value × Value × Value)} {rs : List Row} (h : RowsO W B E us rs) (hB : B' ≤ B) : ∃ E', RowsO W B' E' us rs ∧ E' ≤ E := by
  induction h with
  | nil => exact ⟨B', .nil _, hB⟩
  | snoc h h1 h2 h3 o1 b1 o2 b2 o3 b3 ih =>
    obtain ⟨E', k, hE⟩ := ih
    exact ⟨_, .snoc k (Nat.le_trans hE h1) h2 h3 (o1.low hE) b1 o2 b2 o3 b3, Nat.le_refl _⟩
theorem RowsO.low {W : World} {B E B' S : Nat} {us : List (Value × Value × Value)} {rs : List Row} (h : RowsO W B E us rs) (hE : E ≤ S) (hB : B' ≤ B) : ∃ E', RowsO W B' E' us rs ∧ E' ≤ S := by
  obtain ⟨E', k, hk⟩ := h.low0 hB
  exact ⟨E', k, Nat.le_trans hk hE⟩
set_option maxHeartbeats 16000000 in
theorem iAigRun (x : Aig) (u : List Value) (steps : List Step) (sv : Value) (w : World) (hl : szAig x ≤ 1048576) (hr : RAig w 0 x u) (hs : RS 2 RStep w 0 steps sv) (hsl : steps.length ≤ 1048576) :
    Calls Tryz.prog 9 #[.agg u.toArray, sv] w fun e w' => (∃ v us E, e = .returned (.tuple #[v, .int .i64 (runA x steps).2]) ∧ w'.ownsRow w.heap.size 75 3 v (runA x steps).1.length (rcs us) ∧ RowsO w' w.heap.size E us (runA x steps).1 ∧ E ≤ w'.heap.size) ∧ Below w.heap.size w w' := by
  have HOK := hide (fun (V : World) (hb : Below w.heap.size w V) => iAigOK x u V hl (hr.later hb))
  have HRA := hide hr
  obtain ⟨b0, b1, b2, b3, b4, b5⟩ := szAig_parts hl
  obtain ⟨v0, v1, v2, v3, v4, v5, rfl, h0, h1, h2, h3, h4, h5⟩ := hr
  obtain ⟨s0, c0, e0⟩ := h0.slice
  obtain ⟨s1, c1, e1⟩ := h1.slice
  obtain ⟨s2, c2, e2⟩ := h2.slice
  obtain ⟨s3, c3, e3⟩ := h3.slice
  obtain ⟨s4, c4, e4⟩ := h4.slice
  obtain ⟨s5, c5, e5⟩ := h5.slice
  subst e0 e1 e2 e3 e4 e5
  clear h0 h1 h3 h4 h5
  have HS := hide hs
  have H2 := hide h2
  obtain ⟨sa, sc, rfl⟩ := hs.slice
  clear hs h2
  show Calls Tryz.prog 9 #[.agg #[.slice s0 x.ins.length c0, .slice s1 x.clocks.length c1, .slice s2 x.latches.length c2, .slice s3 x.ands.length c3, .slice s4 x.outs.length c4, .slice s5 x.checks.length c5], .slice sa steps.length sc] w _
  change Hid (∀ (V : World), Below w.heap.size w V → Calls Tryz.prog 33 #[.agg #[.slice s0 x.ins.length c0, .slice s1 x.clocks.length c1, .slice s2 x.latches.length c2, .slice s3 x.ands.length c3, .slice s4 x.outs.length c4, .slice s5 x.checks.length c5]] V _) at HOK
  by_cases hlong : steps.length ≤ 4096
  · have hd : decide ((4096 : Int) < (steps.length : Int)) = false := decide_eq_false (by omega)
    cases hok : aigI x
    · have HR : Hid (runA x steps = ([], 1)) := hide (by unfold runA; rw [if_pos hlong, hok]; rfl)
      rw [hok] at HOK
      clear hok HRA HS H2
      go_enter Tryz.func9, Tryz.ntmps9
      go_wp2_with fail
      refine (unhide HOK _ (bal (brf w) _)).mono ?_
      rintro e W1 ⟨rfl, hb1⟩
      have HB := hide (btr (bal (brf w) _) hb1)
      clear hb1
      go_wp2_with fail
      exact bodyPost_ret (v := .tuple #[.slice none 0 0, .int .i64 1]) (by simp [results, Tryz.results9, go_sem]) rfl ⟨⟨_, [], w.heap.size, by rw [unhide HR], by rw [unhide HR]; exact World.ownsRow_nil _ _ _ _, by rw [unhide HR]; exact .nil _, (unhide HB).size⟩, unhide HB⟩
    · have hfit := AigFit.of hok
      rw [hok] at HOK
      have HFIT := hide hfit
      have HC : Hid (∀ V, Below (w.alloc (.cells #[.slice s0 x.ins.length c0, .slice s1 x.clocks.length c1, .slice s2 x.latches.length c2, .slice s3 x.ands.length c3, .slice s4 x.outs.length c4, .slice s5 x.checks.length c5] 38)).heap.size (w.alloc (.cells #[.slice s0 x.ins.length c0, .slice s1 x.clocks.length c1, .slice s2 x.latches.length c2, .slice s3 x.ands.length c3, .slice s4 x.outs.length c4, .slice s5 x.checks.length c5] 38)) V → B6 38 w (.slice s0 x.ins.length c0) (.slice s1 x.clocks.length c1) (.slice s2 x.latches.length c2) (.slice s3 x.ands.length c3) (.slice s4 x.outs.length c4) (.slice s5 x.checks.length c5) V) := hide (fun V h => h)
      clear hfit
      go_enter Tryz.func9, Tryz.ntmps9
      go_wp2_with fail
      refine (unhide HOK _ (bal (brf w) _)).mono ?_
      rintro e W1 ⟨rfl, hb1⟩
      have HX1 := hide (unhide HC _ hb1)
      obtain ⟨q0, q1, q2, q3, q4, q5⟩ := (unhide HX1).get
      clear hb1
      have HRP := hide (iRepeat W1.heap.size x.ins.length (W1.alloc (.cells #[.int .i64 1] 3)) b0 (by rw [World.cell?_alloc_new]; rfl))
      have kq : (W1.alloc (.cells #[.int .i64 1] 3)).cell? ⟨w.heap.size, 0, none⟩ = some (.slice s0 x.ins.length c0) := cell_later (bal (brf W1) _) q0
      go_wp2_with fail
      refine (unhide HRP).mono ?_
      rintro e W2 ⟨⟨wv, rfl, hwv⟩, hb2⟩
      have HX2 := hide ((unhide HX1).then (btr (bal (brf W1) _) hb2))
      have HSF := hide (iStepsFit (n1 := x.clocks.length) steps (.slice sa steps.length sc) wv ((unhide HS).later RStep.keeps (unhide HX2).below) hlong hwv b0 b1)
      clear hb2 hwv q0 q1 q2 q3 q4 q5 kq HRP
      obtain ⟨q0, q1, q2, q3, q4, q5⟩ := (unhide HX2).get
      cases hall : steps.all (stepB x.ins.length x.clocks.length)
      · have HR : Hid (runA x steps = ([], 1)) := hide (by unfold runA; rw [if_pos hlong, hok, hall]; rfl)
        rw [hall] at HSF
        clear hok hall
        go_wp2_with fail
        refine (unhide HSF).mono ?_
        rintro e W3 ⟨rfl, hb3⟩
        have HB := hide ((unhide HX2).then hb3).below
        clear hb3
        go_wp2_with fail
        exact bodyPost_ret (v := .tuple #[.slice none 0 0, .int .i64 1]) (by simp [results, Tryz.results9, go_sem]) rfl ⟨⟨_, [], w.heap.size, by rw [unhide HR], by rw [unhide HR]; exact World.ownsRow_nil _ _ _ _, by rw [unhide HR]; exact .nil _, (unhide HB).size⟩, unhide HB⟩
      · have HR : Hid (runA x steps = (rowsV x (st0A x) steps, 0)) := hide (by unfold runA; rw [if_pos hlong, hok, hall]; rfl)
        have HFS : Hid (∀ s ∈ steps, StepFit x s) := hide (fun s hs => stepB_fit (List.all_eq_true.1 hall s hs))
        rw [hall] at HSF
        clear hok hall
        go_wp2_with fail
        refine (unhide HSF).mono ?_
        rintro e W3 ⟨rfl, hb3⟩
        have HX3 := hide ((unhide HX2).then hb3)
        clear hb3 q0 q1 q2 q3 q4 q5
        obtain ⟨q0, q1, q2, q3, q4, q5⟩ := (unhide HX3).get
        have HNR := hide (iNewRun s0 s1 s2 s3 s4 s5 x.ins.length x.clocks.length x.latches.length x.ands.length x.outs.length x.checks.length c0 c1 c2 c3 c4 c5 x.latches W3 ((unhide H2).later RLatch.keeps (unhide HX3).below) b0 b2 b3)
        go_wp2_with fail
        refine (unhide HNR).mono ?_
        rintro e W4 ⟨bb, gg, rfl, hob, hb4⟩
        have HX4 := hide ((unhide HX3).then hb4)
        have HB4 := hide hb4
        have hob' : Ob W3.heap.size W4 bb gg [.slice s0 x.ins.length c0, .slice s1 x.clocks.length c1, .slice s2 x.latches.length c2, .slice s3 x.ands.length c3, .slice s4 x.outs.length c4, .slice s5 x.checks.length c5] (false :: (List.replicate x.ins.length false ++ (st0A x ++ List.replicate x.ands.length false))) := by
          have e : List.replicate (1 + x.ins.length) false ++ (x.latches.map (fun l : Latch => l.init == 1) ++ List.replicate x.ands.length false) = false :: (List.replicate x.ins.length false ++ (st0A x ++ List.replicate x.ands.length false)) := by
            rw [Nat.add_comm, List.replicate_succ]; rfl
          rw [← e]; exact hob
        have HRS := hide (iRunSteps (W0 := W3) (W := W4) x (unhide HFIT) ((unhide HRA).later (unhide HX3).below) steps (.slice sa steps.length sc) ((unhide HS).later RStep.keeps (unhide HX3).below) hlong (unhide HFS) hb4 (List.replicate x.ins.length false) (st0A x) (List.replicate x.ands.length false) (by simp) (by unfold st0A; simp) (by simp) hob')
        clear hob hob' hb4 q0 q1 q2 q3 q4 q5
        go_wp2_with fail
        refine (unhide HRS).mono ?_
        rintro e W5 ⟨⟨v, us, E, rfl, ho, hro, hE⟩, hb5, hfx⟩
        have hsz := ((unhide HX4).below).size
        have hB5 : Below w.heap.size w W5 := btr (unhide HX3).below hb5
        have hrl : (rowsV x (st0A x) steps).length = steps.length := rowsV_len x steps _
        have HF : Hid (W5.ownsRow w.heap.size 75 3 v (rowsV x (st0A x) steps).length (rcs us) ∧ (∃ E, RowsO W5 w.heap.size E us (rowsV x (st0A x) steps) ∧ E ≤ W5.heap.size)) := hide ⟨by
          rw [hrl]
          obtain ⟨k1, k2 | ⟨g, cap, cur, hv, hg, rest⟩⟩ := ho
          · exact ⟨k1, .inl k2⟩
          · exact ⟨k1, .inr ⟨g, cap, cur, hv, by omega, rest⟩⟩, by
          exact RowsO.low hro hE hsz⟩
        have HB5 := hide hB5
        clear ho hro hE hb5 hfx hsz hB5 hrl
        go_wp2_with fail
        exact bodyPost_ret (v := .tuple #[v, .int .i64 0]) (by simp [results, Tryz.results9, go_sem]) rfl ⟨by
          obtain ⟨k1, E', k2, k3⟩ := unhide HF
          exact ⟨_, us, E', by rw [unhide HR], by rw [unhide HR]; exact k1, by rw [unhide HR]; exact k2, k3⟩, unhide HB5⟩
  · have hd : decide ((4096 : Int) < (steps.length : Int)) = true := decide_eq_true (by omega)
    have HR : Hid (runA x steps = ([], 2)) := hide (by unfold runA; rw [if_neg hlong])
    clear HRA HS H2 HOK
    go_enter Tryz.func9, Tryz.ntmps9
    go_wp2_with fail
    exact bodyPost_ret (v := .tuple #[.slice none 0 0, .int .i64 2]) (by simp [results, Tryz.results9, go_sem]) rfl ⟨⟨_, [], w.heap.size, by rw [unhide HR], by rw [unhide HR]; exact World.ownsRow_nil _ _ _ _, by rw [unhide HR]; exact .nil _, (bal (brf w) _).size⟩, bal (brf w) _⟩
end Go.Proofs.YtaamibonpmijaaaGreat
