/- countsFit. -/
import Derived.Test.YthbcokioijpofabGreatGd
import Derived.Test.YthbcokioijpofabGreatGb
import Derived.Test.YthbcokioijpofabGreatGe
import Derived.Test.YthbcokioijpofabGreatAF2
import Derived.Test.YthbcokioijpofabGreatANL
namespace Go.Proofs.YthbcokioijpofabGreat
open Go Go.RowKit Gs
set_option linter.unusedVariables false
set_option linter.unusedSimpArgs false
set_option maxRecDepth 100000
def FCN (s0 s1 s2 s3 s4 s5 : Option Addr) (l0 l1 l2 l3 l4 l5 c0 c1 c2 c3 c4 c5 : Nat) (B : Nat) (M : Int) : Nat → Value → Prop
  | 0, v => v = .agg #[.slice s0 l0 c0, .slice s1 l1 c1, .slice s2 l2 c2, .slice s3 l3 c3, .slice s4 l4 c4, .slice s5 l5 c5]
  | 1, v => v = .int .i64 ((l0 + l2 : Nat) : Int)
  | 2, v => v = .pointer (some ⟨B, 4, none⟩)
  | 3, v => v = .slice s4 l4 c4
  | 4, v => v = .int .i64 (l4 : Int)
  | 5, v => v = .pointer (some ⟨B, 5, none⟩)
  | 6, v => v = .slice s5 l5 c5
  | 7, v => v = .int .i64 (l5 : Int)
  | 8, v => v = .int .i64 M
  | 9, v => v = .bool (decide (M ≤ 2048))
  | 10, v => v = .bool (decide (M ≤ 2048))
  | _, _ => True
set_option maxHeartbeats 3200000 in
theorem iCounts (s0 s1 s2 s3 s4 s5 : Option Addr) (l0 l1 l2 l3 l4 l5 c0 c1 c2 c3 c4 c5 : Nat) (w : World) (h0 : l0 ≤ 1048576) (h1 : l1 ≤ 1048576) (h2 : l2 ≤ 1048576) (h3 : l3 ≤ 1048576) (h4 : l4 ≤ 1048576) (h5 : l5 ≤ 1048576) :
    Calls Tryz.prog 62 #[.agg #[.slice s0 l0 c0, .slice s1 l1 c1, .slice s2 l2 c2, .slice s3 l3 c3, .slice s4 l4 c4, .slice s5 l5 c5]] w fun e w' => e = .returned (.bool (countsN l0 l1 l2 l3 l4 l5)) ∧ Below w.heap.size w w' := by
  by_cases k3 : (l3 : Int) > 1024
  · have HR : Hid (countsN l0 l1 l2 l3 l4 l5 = false) := hide (by unfold countsN; rw [decide_eq_false (p := l3 ≤ 1024) (by omega)]; rfl)
    go_enter Tryz.func62, Tryz.ntmps62
    go_wp2
    exact bodyPost_ret (v := .bool false) (by simp [results, Tryz.results62, go_sem]) rfl ⟨by rw [unhide HR], bal (brf w) _⟩
  · by_cases k1 : (l1 : Int) > 8
    · have HR : Hid (countsN l0 l1 l2 l3 l4 l5 = false) := hide (by unfold countsN; rw [decide_eq_false (p := l1 ≤ 8) (by omega)]; simp)
      have k3' : decide ((1024 : Int) < l3) = false := decide_eq_false (by omega)
      go_enter Tryz.func62, Tryz.ntmps62
      go_wp2
      exact bodyPost_ret (v := .bool false) (by simp [results, Tryz.results62, go_sem]) rfl ⟨by rw [unhide HR], bal (brf w) _⟩
    · obtain ⟨M, hM⟩ : ∃ M : Int, M = (if (if ((l0 + l2 : Nat) : Int) < (l4 : Int) then (l4 : Int) else ((l0 + l2 : Nat) : Int)) < (l5 : Int) then (l5 : Int) else (if ((l0 + l2 : Nat) : Int) < (l4 : Int) then (l4 : Int) else ((l0 + l2 : Nat) : Int))) := ⟨_, rfl⟩
      have HR : Hid (countsN l0 l1 l2 l3 l4 l5 = decide (M ≤ 2048)) := hide (by
        unfold countsN
        rw [decide_eq_true (p := l1 ≤ 8) (by omega), decide_eq_true (p := l3 ≤ 1024) (by omega), hM, Bool.eq_iff_iff]
        simp only [Bool.true_and, Bool.and_eq_true, decide_eq_true_eq]
        split <;> split <;> omega)
      have k3' : decide ((1024 : Int) < l3) = false := decide_eq_false (by omega)
      have k1' : decide ((8 : Int) < l1) = false := decide_eq_false (by omega)
      have HM := hide hM
      have HC1 : Hid (∀ V, Below (w.alloc (.cells #[.slice s0 l0 c0, .slice s1 l1 c1, .slice s2 l2 c2, .slice s3 l3 c3, .slice s4 l4 c4, .slice s5 l5 c5] 38)).heap.size (w.alloc (.cells #[.slice s0 l0 c0, .slice s1 l1 c1, .slice s2 l2 c2, .slice s3 l3 c3, .slice s4 l4 c4, .slice s5 l5 c5] 38)) V → V.cell? ⟨w.heap.size, 0, none⟩ = some (.slice s0 l0 c0) ∧ V.cell? ⟨w.heap.size, 1, none⟩ = some (.slice s1 l1 c1) ∧ V.cell? ⟨w.heap.size, 2, none⟩ = some (.slice s2 l2 c2) ∧ V.cell? ⟨w.heap.size, 3, none⟩ = some (.slice s3 l3 c3) ∧ V.cell? ⟨w.heap.size, 4, none⟩ = some (.slice s4 l4 c4) ∧ V.cell? ⟨w.heap.size, 5, none⟩ = some (.slice s5 l5 c5)) := hide (fun V hb => ⟨cell_later hb (by rw [World.cell?_alloc_new]; rfl), cell_later hb (by rw [World.cell?_alloc_new]; rfl), cell_later hb (by rw [World.cell?_alloc_new]; rfl), cell_later hb (by rw [World.cell?_alloc_new]; rfl), cell_later hb (by rw [World.cell?_alloc_new]; rfl), cell_later hb (by rw [World.cell?_alloc_new]; rfl)⟩)
      clear hM
      go_enter Tryz.func62, Tryz.ntmps62
      go_wp2
      obtain ⟨W, hW⟩ : ∃ W, W = w.alloc (.cells #[.slice s0 l0 c0, .slice s1 l1 c1, .slice s2 l2 c2, .slice s3 l3 c3, .slice s4 l4 c4, .slice s5 l5 c5] 38) := ⟨_, rfl⟩
      have HW := hide hW
      have HB : Hid (Below w.heap.size w W) := hide (by rw [hW]; exact bal (brf w) _)
      rw [← hW]
      clear hW k3' k1' k3 k1
      refine wp_plan (GF (FCN s0 s1 s2 s3 s4 s5 l0 l1 l2 l3 l4 l5 c0 c1 c2 c3 c4 c5 w.heap.size M)) (JB W) (by kernel_rfl) 23 (by kernel_rfl) (by kernel_rfl) ?hj ?hs ?hf
      case hj => exact bdr (brf W)
      case hs =>
        refine ⟨?_, ?_, ?_, ?_, ?_, ?_, ?_, ?_, ?_, ?_, ?_, trivial⟩
        · exact st_val rfl (fun l a V hp ha => ⟨.agg #[.slice s0 l0 c0, .slice s1 l1 c1, .slice s2 l2 c2, .slice s3 l3 c3, .slice s4 l4 c4, .slice s5 l5 c5], by
            have x1 := (ev_form a 1).trans (old hp 1 (v := .pointer (some ⟨w.heap.size, 0, none⟩)) (by kernel_rfl) (by kernel_rfl))
            obtain ⟨q0, q1, q2, q3, q4, q5⟩ := unhide HC1 V (by rw [← unhide HW]; exact hp.j)
            go_simp, rfl⟩)
        · exact st_call (f := 69) rfl (fun l a V hp ha => ⟨#[.agg #[.slice s0 l0 c0, .slice s1 l1 c1, .slice s2 l2 c2, .slice s3 l3 c3, .slice s4 l4 c4, .slice s5 l5 c5]], by
            have x13 := (ev_form a 13).trans (show a.eval (.tmp 13) = .agg #[.slice s0 l0 c0, .slice s1 l1 c1, .slice s2 l2 c2, .slice s3 l3 c3, .slice s4 l4 c4, .slice s5 l5 c5] from kn hp ha 13 0 (by kernel_rfl) (by kernel_rfl))
            go_simp, (iFirst s0 s2 l0 l2 c0 c2 _ _ _ _ V h0 h2).mono (by rintro e V1 ⟨rfl, hb⟩; exact ⟨_, rfl, rfl, hb⟩)⟩)
        · exact st_val rfl (fun l a V hp ha => ⟨.pointer (some ⟨w.heap.size, 4, none⟩), by
            have x1 := (ev_form a 1).trans (old hp 1 (v := .pointer (some ⟨w.heap.size, 0, none⟩)) (by kernel_rfl) (by kernel_rfl))
            go_simp, rfl⟩)
        · exact st_val rfl (fun l a V hp ha => ⟨.slice s4 l4 c4, by
            have x15 := (ev_form a 15).trans (show a.eval (.tmp 15) = .pointer (some ⟨w.heap.size, 4, none⟩) from kn hp ha 15 2 (by kernel_rfl) (by kernel_rfl))
            obtain ⟨q0, q1, q2, q3, q4, q5⟩ := unhide HC1 V (by rw [← unhide HW]; exact hp.j)
            go_simp, rfl⟩)
        · exact st_val rfl (fun l a V hp ha => ⟨.int .i64 (l4 : Int), by
            have x16 := (ev_form a 16).trans (show a.eval (.tmp 16) = .slice s4 l4 c4 from kn hp ha 16 3 (by kernel_rfl) (by kernel_rfl))
            go_simp, rfl⟩)
        · exact st_val rfl (fun l a V hp ha => ⟨.pointer (some ⟨w.heap.size, 5, none⟩), by
            have x1 := (ev_form a 1).trans (old hp 1 (v := .pointer (some ⟨w.heap.size, 0, none⟩)) (by kernel_rfl) (by kernel_rfl))
            go_simp, rfl⟩)
        · exact st_val rfl (fun l a V hp ha => ⟨.slice s5 l5 c5, by
            have x18 := (ev_form a 18).trans (show a.eval (.tmp 18) = .pointer (some ⟨w.heap.size, 5, none⟩) from kn hp ha 18 5 (by kernel_rfl) (by kernel_rfl))
            obtain ⟨q0, q1, q2, q3, q4, q5⟩ := unhide HC1 V (by rw [← unhide HW]; exact hp.j)
            go_simp, rfl⟩)
        · exact st_val rfl (fun l a V hp ha => ⟨.int .i64 (l5 : Int), by
            have x19 := (ev_form a 19).trans (show a.eval (.tmp 19) = .slice s5 l5 c5 from kn hp ha 19 6 (by kernel_rfl) (by kernel_rfl))
            go_simp, rfl⟩)
        · exact st_val rfl (fun l a V hp ha => ⟨.int .i64 M, by
            have x14 := (ev_form a 14).trans (show a.eval (.tmp 14) = .int .i64 ((l0 + l2 : Nat) : Int) from kn hp ha 14 1 (by kernel_rfl) (by kernel_rfl))
            have x17 := (ev_form a 17).trans (show a.eval (.tmp 17) = .int .i64 (l4 : Int) from kn hp ha 17 4 (by kernel_rfl) (by kernel_rfl))
            have x20 := (ev_form a 20).trans (show a.eval (.tmp 20) = .int .i64 (l5 : Int) from kn hp ha 20 7 (by kernel_rfl) (by kernel_rfl))
            have hM := unhide HM
            go_simp, rfl⟩)
        · exact st_val rfl (fun l a V hp ha => ⟨.bool (decide (M ≤ 2048)), by
            have x21 := (ev_form a 21).trans (show a.eval (.tmp 21) = .int .i64 M from kn hp ha 21 8 (by kernel_rfl) (by kernel_rfl))
            go_simp, rfl⟩)
        · exact st_val rfl (fun l a V hp ha => ⟨.bool (decide (M ≤ 2048)), by
            have x22 := (ev_form a 22).trans (show a.eval (.tmp 22) = .bool (decide (M ≤ 2048)) from kn hp ha 22 9 (by kernel_rfl) (by kernel_rfl))
            go_simp, rfl⟩)

      case hf =>
        intro l a V hp hall
        have hv := hp.good 10 _ 2 rfl rfl (hall 10 (by decide))
        have HBV := hide (btr (unhide HB) hp.j)
        obtain ⟨us, rfl, hus⟩ := putAll_of [13, 14, 15, 16, 17, 18, 19, 20, 21, 22, 2] hp.nt hp.df (fun t ht => hp.keep t (dstIn (by kernel_rfl) ht))
        have hu2 : us 2 = .bool (decide (M ≤ 2048)) := (hus 2).trans hv
        clear hp hall hv hus
        simp only [putAll, List.foldl, Act.put, List.setIfInBounds_toArray, List.set_cons_zero, List.set_cons_succ, hu2]
        clear hu2
        go_wp2
        exact bodyPost_ret (v := .bool (decide (M ≤ 2048))) (by simp [results, Tryz.results62, go_sem]) rfl ⟨by rw [unhide HR], unhide HBV⟩
end Go.Proofs.YthbcokioijpofabGreat
namespace Go.Proofs.YthbcokioijpofabGreat
open Go Go.RowKit Gs
set_option linter.unusedVariables false
set_option linter.unusedSimpArgs false
set_option maxRecDepth 100000
/-- The lists of names. -/
def nameLs (a : Mapped) : List (List ByteArray) := [a.ins ++ a.clocks, a.regs.map (fun l : MapReg => l.name), a.outs.map (fun p : Port => p.name), a.checks.map (fun p : Port => p.name)]
/-- What MapOK answers. -/
def mapI (a : Mapped) : Bool := countsA a && srcsB a.ins.length a.regs a.luts a.outs a.checks && a.regs.all (latchB a.clocks.length) && (nameLs a).all namesB
set_option maxHeartbeats 16000000 in
theorem mem_szL {α : Type} {f : α → Nat} {xs : List α} {x : α} (h : x ∈ xs) : f x ≤ szL f xs := by
  rw [szL_sm]
  unfold sm
  have : f x ≤ (xs.map f).sum := by
    induction xs with
    | nil => cases h
    | cons y r ih =>
      rw [List.map_cons, List.sum_cons]
      rcases List.mem_cons.1 h with rfl | h
      · omega
      · have := ih h; omega
  omega
theorem lut_in {m : Mapped} (h : szMapped m ≤ 1048576) : ∀ x ∈ m.luts, x.inp.length ≤ 1048576 := by
  intro x hx
  have h1 := mem_szL (f := szLut) hx
  have h2 : szLut x = x.inp.length + sm (fun (_ : Int) => 0) x.inp := szL_sm _ _
  have h3 : szL szLut m.luts ≤ szMapped m := by unfold szMapped; omega
  omega
set_option maxHeartbeats 16000000 in
theorem iMapOK (a : Mapped) (u : List Value) (w : World) (hl : szMapped a ≤ 1048576) (hr : RMapped w 0 a u) :
    Calls Tryz.prog 32 #[.agg u.toArray] w fun e w' => e = .returned (.bool (mapI a)) ∧ Below w.heap.size w w' := by
  have hz : szMapped a = szL (fun (s : ByteArray) => s.size) a.ins + szL (fun (s : ByteArray) => s.size) a.clocks + szL szMapReg a.regs + szL szLut a.luts + szL szPort a.outs + szL szPort a.checks := rfl
  have hin := lut_in hl
  have z0 := szL_sm (fun (s : ByteArray) => s.size) a.ins
  have z1 := szL_sm (fun (s : ByteArray) => s.size) a.clocks
  have z2 := szL_sm szMapReg a.regs
  have z3 := szL_sm szLut a.luts
  have z4 := szL_sm szPort a.outs
  have z5 := szL_sm szPort a.checks
  have b0 : a.ins.length ≤ 1048576 := by omega
  have b1 : a.clocks.length ≤ 1048576 := by omega
  have b2 : a.regs.length ≤ 1048576 := by omega
  have b3 : a.luts.length ≤ 1048576 := by omega
  have b4 : a.outs.length ≤ 1048576 := by omega
  have b5 : a.checks.length ≤ 1048576 := by omega
  clear hz z0 z1 z2 z3 z4 z5 hl
  obtain ⟨v0, v1, v2, v3, v4, v5, rfl, h0, h1, h2, h3, h4, h5⟩ := hr
  obtain ⟨s0, c0, rfl⟩ := h0.slice
  obtain ⟨l0, e0⟩ : ∃ l, a.ins.length = l := ⟨_, rfl⟩
  rw [e0] at h0
  obtain ⟨s1, c1, rfl⟩ := h1.slice
  obtain ⟨l1, e1⟩ : ∃ l, a.clocks.length = l := ⟨_, rfl⟩
  rw [e1] at h1
  obtain ⟨s2, c2, rfl⟩ := h2.slice
  obtain ⟨l2, e2⟩ : ∃ l, a.regs.length = l := ⟨_, rfl⟩
  rw [e2] at h2
  obtain ⟨s3, c3, rfl⟩ := h3.slice
  obtain ⟨l3, e3⟩ : ∃ l, a.luts.length = l := ⟨_, rfl⟩
  rw [e3] at h3
  obtain ⟨s4, c4, rfl⟩ := h4.slice
  obtain ⟨l4, e4⟩ : ∃ l, a.outs.length = l := ⟨_, rfl⟩
  rw [e4] at h4
  obtain ⟨s5, c5, rfl⟩ := h5.slice
  obtain ⟨l5, e5⟩ : ∃ l, a.checks.length = l := ⟨_, rfl⟩
  rw [e5] at h5
  have HCN : Hid (∀ V : World, Below w.heap.size w V → Calls Tryz.prog 62 #[.agg #[.slice s0 l0 c0, .slice s1 l1 c1, .slice s2 l2 c2, .slice s3 l3 c3, .slice s4 l4 c4, .slice s5 l5 c5]] V fun e w' => e = .returned (.bool (countsA a)) ∧ Below V.heap.size V w') := hide (fun V _ => by
    unfold countsA
    rw [e0, e1, e2, e3, e4, e5]
    exact iCounts s0 s1 s2 s3 s4 s5 l0 l1 l2 l3 l4 l5 c0 c1 c2 c3 c4 c5 V (by omega) (by omega) (by omega) (by omega) (by omega) (by omega))
  have HLI : Hid (∀ V : World, Below w.heap.size w V → Calls Tryz.prog 63 #[.agg #[.slice s0 l0 c0, .slice s1 l1 c1, .slice s2 l2 c2, .slice s3 l3 c3, .slice s4 l4 c4, .slice s5 l5 c5]] V fun e w' => e = .returned (.bool (srcsB a.ins.length a.regs a.luts a.outs a.checks)) ∧ Below V.heap.size V w') := hide (fun V hb => by
    rw [e0]
    exact iSources s0 s1 s2 s3 s4 s5 l0 l1 l2 l3 l4 l5 c0 c1 c2 c3 c4 c5 a.regs a.luts a.outs a.checks V (by omega) b2 b3 b4 b5 hin (h2.later RMapReg.keeps hb) (h3.later RLut.keeps hb) (h4.later RPort.keeps hb) (h5.later RPort.keeps hb))
  have HLA : Hid (∀ V : World, Below w.heap.size w V → Calls Tryz.prog 64 #[.agg #[.slice s0 l0 c0, .slice s1 l1 c1, .slice s2 l2 c2, .slice s3 l3 c3, .slice s4 l4 c4, .slice s5 l5 c5]] V fun e w' => e = .returned (.bool (a.regs.all (latchB a.clocks.length))) ∧ Below V.heap.size V w') := hide (fun V hb => by
    rw [e1]
    exact iMapReges s0 s1 s2 s3 s4 s5 l0 l1 l2 l3 l4 l5 c0 c1 c2 c3 c4 c5 a.regs V (by omega) b2 (h2.later RMapReg.keeps hb))
  have HNL : Hid (∀ V : World, Below w.heap.size w V → Calls Tryz.prog 65 #[.agg #[.slice s0 l0 c0, .slice s1 l1 c1, .slice s2 l2 c2, .slice s3 l3 c3, .slice s4 l4 c4, .slice s5 l5 c5]] V fun e w' => (∃ v', e = .returned v' ∧ RS 1 (RL 1 RStr) w' 0 (nameLs a) v') ∧ Below V.heap.size V w') := hide (fun V hb =>
    iNameLists s0 s1 s2 s3 s4 s5 l0 l1 l2 l3 l4 l5 c0 c1 c2 c3 c4 c5 a.ins a.clocks a.regs a.outs a.checks V b0 b1 b2 b4 b5 (h0.later RStr.keeps hb) (h1.later RStr.keeps hb) (h2.later RMapReg.keeps hb) (h4.later RPort.keeps hb) (h5.later RPort.keeps hb))
  have HLN : Hid (∀ ss ∈ nameLs a, ss.length ≤ 2097152) := hide (by
    intro ss hs
    simp only [nameLs, List.mem_cons, List.not_mem_nil, or_false] at hs
    rcases hs with rfl | rfl | rfl | rfl <;> simp <;> omega)
  have HNN := hide (show (nameLs a).length = 4 from rfl)
  have HD : Hid (mapI a = (countsA a && srcsB a.ins.length a.regs a.luts a.outs a.checks && a.regs.all (latchB a.clocks.length) && (nameLs a).all namesB)) := hide rfl
  generalize mapI a = RR at *
  generalize countsA a = p1 at *
  generalize srcsB a.ins.length a.regs a.luts a.outs a.checks = p2 at *
  generalize a.regs.all (latchB a.clocks.length) = p3 at *
  generalize nameLs a = nls at *
  clear hin h0 h1 h2 h3 h4 h5 b0 b1 b2 b3 b4 b5
  rw [e0, e1, e2, e3, e4, e5]
  clear e0 e1 e2 e3 e4 e5
  have HC1 : Hid (∀ V, Below (w.alloc (.cells #[.slice s0 l0 c0, .slice s1 l1 c1, .slice s2 l2 c2, .slice s3 l3 c3, .slice s4 l4 c4, .slice s5 l5 c5] 38)).heap.size (w.alloc (.cells #[.slice s0 l0 c0, .slice s1 l1 c1, .slice s2 l2 c2, .slice s3 l3 c3, .slice s4 l4 c4, .slice s5 l5 c5] 38)) V → V.cell? ⟨w.heap.size, 0, none⟩ = some (.slice s0 l0 c0) ∧ V.cell? ⟨w.heap.size, 1, none⟩ = some (.slice s1 l1 c1) ∧ V.cell? ⟨w.heap.size, 2, none⟩ = some (.slice s2 l2 c2) ∧ V.cell? ⟨w.heap.size, 3, none⟩ = some (.slice s3 l3 c3) ∧ V.cell? ⟨w.heap.size, 4, none⟩ = some (.slice s4 l4 c4) ∧ V.cell? ⟨w.heap.size, 5, none⟩ = some (.slice s5 l5 c5)) := hide (fun V hb => ⟨cell_later hb (by rw [World.cell?_alloc_new]; rfl), cell_later hb (by rw [World.cell?_alloc_new]; rfl), cell_later hb (by rw [World.cell?_alloc_new]; rfl), cell_later hb (by rw [World.cell?_alloc_new]; rfl), cell_later hb (by rw [World.cell?_alloc_new]; rfl), cell_later hb (by rw [World.cell?_alloc_new]; rfl)⟩)
  obtain ⟨W, hW⟩ : ∃ W, W = w.alloc (.cells #[.slice s0 l0 c0, .slice s1 l1 c1, .slice s2 l2 c2, .slice s3 l3 c3, .slice s4 l4 c4, .slice s5 l5 c5] 38) := ⟨_, rfl⟩
  have HW : Hid (Below w.heap.size w W) := hide (by rw [hW]; exact bal (brf w) _)
  rw [← hW] at HC1
  have HW' := hide hW
  clear hW
  cases p1
  · go_enter Tryz.func32, Tryz.ntmps32
    go_wp2_with fail
    rw [← unhide HW']
    refine (unhide HCN _ (unhide HW)).mono ?_
    rintro e W1 ⟨rfl, hb1⟩
    have HB1 : Hid (Below W.heap.size W W1) := hide hb1
    obtain ⟨q10, q11, q12, q13, q14, q15⟩ := unhide HC1 W1 (unhide HB1)
    clear hb1
    go_wp2_with fail
    exact bodyPost_ret (v := .bool false) (by simp [results, Tryz.results32, go_sem]) rfl ⟨by rw [unhide HD]; rfl, btr (unhide HW) (unhide HB1)⟩
  · cases p2
    · go_enter Tryz.func32, Tryz.ntmps32
      go_wp2_with fail
      rw [← unhide HW']
      refine (unhide HCN _ (unhide HW)).mono ?_
      rintro e W1 ⟨rfl, hb1⟩
      have HB1 : Hid (Below W.heap.size W W1) := hide hb1
      obtain ⟨q10, q11, q12, q13, q14, q15⟩ := unhide HC1 W1 (unhide HB1)
      clear hb1
      go_wp2_with fail
      refine (unhide HLI _ (btr (unhide HW) (unhide HB1))).mono ?_
      rintro e W2 ⟨rfl, hb2⟩
      have HB2 : Hid (Below W.heap.size W W2) := hide (btr (unhide HB1) hb2)
      obtain ⟨q20, q21, q22, q23, q24, q25⟩ := unhide HC1 W2 (unhide HB2)
      clear hb2 q10 q11 q12 q13 q14 q15
      go_wp2_with fail
      exact bodyPost_ret (v := .bool false) (by simp [results, Tryz.results32, go_sem]) rfl ⟨by rw [unhide HD]; rfl, btr (unhide HW) (unhide HB2)⟩
    · cases p3
      · go_enter Tryz.func32, Tryz.ntmps32
        go_wp2_with fail
        rw [← unhide HW']
        refine (unhide HCN _ (unhide HW)).mono ?_
        rintro e W1 ⟨rfl, hb1⟩
        have HB1 : Hid (Below W.heap.size W W1) := hide hb1
        obtain ⟨q10, q11, q12, q13, q14, q15⟩ := unhide HC1 W1 (unhide HB1)
        clear hb1
        go_wp2_with fail
        refine (unhide HLI _ (btr (unhide HW) (unhide HB1))).mono ?_
        rintro e W2 ⟨rfl, hb2⟩
        have HB2 : Hid (Below W.heap.size W W2) := hide (btr (unhide HB1) hb2)
        obtain ⟨q20, q21, q22, q23, q24, q25⟩ := unhide HC1 W2 (unhide HB2)
        clear hb2 q10 q11 q12 q13 q14 q15
        go_wp2_with fail
        refine (unhide HLA _ (btr (unhide HW) (unhide HB2))).mono ?_
        rintro e W3 ⟨rfl, hb3⟩
        have HB3 : Hid (Below W.heap.size W W3) := hide (btr (unhide HB2) hb3)
        obtain ⟨q30, q31, q32, q33, q34, q35⟩ := unhide HC1 W3 (unhide HB3)
        clear hb3 q20 q21 q22 q23 q24 q25
        go_wp2_with fail
        exact bodyPost_ret (v := .bool false) (by simp [results, Tryz.results32, go_sem]) rfl ⟨by rw [unhide HD]; rfl, btr (unhide HW) (unhide HB3)⟩
      · go_enter Tryz.func32, Tryz.ntmps32
        go_wp2_with fail
        rw [← unhide HW']
        refine (unhide HCN _ (unhide HW)).mono ?_
        rintro e W1 ⟨rfl, hb1⟩
        have HB1 : Hid (Below W.heap.size W W1) := hide hb1
        obtain ⟨q10, q11, q12, q13, q14, q15⟩ := unhide HC1 W1 (unhide HB1)
        clear hb1
        go_wp2_with fail
        refine (unhide HLI _ (btr (unhide HW) (unhide HB1))).mono ?_
        rintro e W2 ⟨rfl, hb2⟩
        have HB2 : Hid (Below W.heap.size W W2) := hide (btr (unhide HB1) hb2)
        obtain ⟨q20, q21, q22, q23, q24, q25⟩ := unhide HC1 W2 (unhide HB2)
        clear hb2 q10 q11 q12 q13 q14 q15
        go_wp2_with fail
        refine (unhide HLA _ (btr (unhide HW) (unhide HB2))).mono ?_
        rintro e W3 ⟨rfl, hb3⟩
        have HB3 : Hid (Below W.heap.size W W3) := hide (btr (unhide HB2) hb3)
        obtain ⟨q30, q31, q32, q33, q34, q35⟩ := unhide HC1 W3 (unhide HB3)
        clear hb3 q20 q21 q22 q23 q24 q25
        go_wp2_with fail
        refine (unhide HNL _ (btr (unhide HW) (unhide HB3))).mono ?_
        rintro e W4 ⟨⟨vn, rfl, hrn⟩, hb4⟩
        have HB4 : Hid (Below w.heap.size w W4) := hide (btr (btr (unhide HW) (unhide HB3)) hb4)
        clear hb4 q30 q31 q32 q33 q34 q35
        have HD2 : Hid (RR = nls.all namesB) := hide (by rw [unhide HD]; rfl)
        rcases hrn.open with ⟨rfl, a, c, rfl⟩ | ⟨b, o, c, rfl, hc, hn, _, hce⟩
        · have := unhide HNN
          simp at this
        have hnn := unhide HNN
        rw [hnn]
        have HCE := hide hce
        clear hrn hce hc hn
        go_wp2
        go_loopw [21] (fun i wr => ∃ k : Nat, k ≤ 4 ∧ i = .int .i64 k ∧ (nls.take k).all namesB = true ∧ Below W4.heap.size W4 wr) (fun i wr => 4 - (intOf i).toNat)
        case atStart => exact ⟨0, Nat.zero_le _, rfl, rfl, brf _⟩
        case round =>
          obtain ⟨k, hk, rfl, hall, hb⟩ := hrel
          have HA := hide hall
          clear hall
          by_cases hlt : k < 4
          · have hx : nls[k]? = some nls[k] := List.getElem?_eq_getElem (by omega)
            have hmem : nls[k] ∈ nls := List.getElem_mem (by omega)
            generalize nls[k] = ss at hx hmem
            have HST := hide (show (nls.take (k + 1)).all namesB = ((nls.take k).all namesB && namesB ss) by rw [List.take_add_one, hx, List.all_append]; simp)
            have HF : Hid (namesB ss = false → RR = false) := hide (fun h => by rw [unhide HD2, ← Bool.not_eq_true]; intro e; rw [List.all_eq_true.1 e ss hmem] at h; cases h)
            obtain ⟨u, hul, hat, ve, hus, hve⟩ := unhide HCE k ss hx
            subst hus
            have k0 := cell_later hb (hat.get (j := 0) rfl)
            simp only [Nat.add_zero, Nat.mul_one] at k0
            have HNF := hide (fun (V : World) (hV : Below wr.heap.size wr V) => iNamesFit ss ve V (unhide HLN ss hmem) (hve.later RStr.keeps (btr hb hV)))
            obtain ⟨ae, ce, rfl⟩ := hve.slice
            have HB := hide hb
            clear hat hul HCE hx hmem hb hve hnn
            generalize namesB ss = p at *
            cases p
            · go_wp2_with fail
              refine (unhide HNF _ (brf _)).mono ?_
              rintro e W5 ⟨rfl, h⟩
              have HB5 := hide (btr (unhide HB4) (btr (unhide HB) h))
              clear h
              go_wp2_with fail
              exact bodyPost_ret (v := .bool false) (by simp [results, Tryz.results32, go_sem]) rfl ⟨by rw [show RR = false from unhide HF (by first | rfl | trivial)], unhide HB5⟩
            · go_wp2_with fail
              refine (unhide HNF _ (brf _)).mono ?_
              rintro e W5 ⟨rfl, h⟩
              have HB5 := hide (btr (unhide HB) h)
              clear h
              go_wp2_with fail
              go_roundw
              case rel => exact ⟨k + 1, by omega, by go_num, by rw [unhide HST, unhide HA]; rfl, unhide HB5⟩
              case measure => simp [intOf]; omega
          · obtain rfl : k = 4 := by omega
            have HB := hide (btr (unhide HB4) hb)
            have HA2 : Hid (nls.all namesB = true) := hide (by have h := unhide HA; rwa [List.take_of_length_le (by omega)] at h)
            clear HCE hb HA hnn
            go_wp2
            exact bodyPost_ret (v := .bool true) (by simp [results, Tryz.results32, go_sem]) rfl ⟨by rw [unhide HD2, unhide HA2], unhide HB⟩
end Go.Proofs.YthbcokioijpofabGreat
