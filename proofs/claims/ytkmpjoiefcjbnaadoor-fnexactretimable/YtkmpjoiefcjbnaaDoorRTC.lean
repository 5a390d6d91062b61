/- Both find the same cells. -/
import Derived.Test.YtkmpjoiefcjbnaaDoorRTE
import Derived.Test.YtkmpjoiefcjbnaaDoorSK0
namespace Go.Proofs.YtkmpjoiefcjbnaaDoor
open Go.RowKit Gs
set_option linter.unusedVariables false
set_option maxRecDepth 100000
def fin1 (o : Option Nat) : Bool := match o with
  | some m => decide (pc m = 1)
  | none => false
def ge0 (z : Int) : Bool := decide (0 ≤ z)
theorem pc_mono : ∀ m : Fin 256, ∀ c : Fin 8, pc m.1 ≤ pc (m.1 ||| 2 ^ c.1) := by decide +kernel
theorem pc_one : ∀ c : Fin 8, pc (2 ^ c.1) = 1 := by decide +kernel
theorem pc_two : ∀ a c : Fin 8, a.1 ≠ c.1 → 2 ≤ pc (2 ^ a.1 ||| 2 ^ c.1) := by decide +kernel
theorem or_self' (m : Nat) : m ||| m = m := Nat.or_self m
/-- The clock of a register's cell. -/
theorem clk_range {n : Net} {ins : List Int} (hg : Good n ins) {j : Nat} {k : Cell} (hk : n.cells[j]? = some k) (h34 : k.op = 34) : ∃ c : Nat, clkOf n k = (c : Int) ∧ c < 8 := by
  obtain ⟨r, g, e1, e2, e3, e4⟩ := hg.reg j k hk h34
  refine ⟨g.clock.toNat, ?_, by omega⟩
  unfold clkOf
  rw [e1, Int.toNat_natCast, e2]
  simp only
  omega
theorem many_no {n : Net} {all : List Int} (hg : Good n all) : ∀ (ins : List Int) (m : Nat), (∀ i ∈ ins, i ∈ all) → m < 256 → 2 ≤ pc m → fin1 (setS n ins m) = false
  | [], m, _, _, h2 => by
    show decide (pc m = 1) = false
    exact decide_eq_false (by omega)
  | i :: is, m, hs, hm, h2 => by
    obtain ⟨j, k, rfl, hk⟩ := hg.kid i (hs i (List.mem_cons_self ..))
    rw [setS, Int.toNat_natCast, hk]
    simp only
    have hs' : ∀ i ∈ is, i ∈ all := fun i hi => hs i (List.mem_cons_of_mem _ hi)
    by_cases h29 : k.op = 29
    · rw [if_pos h29]; exact many_no hg is m hs' hm h2
    · rw [if_neg h29]
      by_cases h34 : k.op = 34
      · rw [if_pos h34]
        obtain ⟨c, hc, hc8⟩ := clk_range hg hk h34
        rw [hc, Int.toNat_natCast]
        refine many_no hg is _ hs' (or_small m c hm hc8).2 (Nat.le_trans h2 (pc_mono ⟨m, hm⟩ ⟨c, hc8⟩))
      · rw [if_neg h34]; rfl
theorem one_same {n : Net} {all : List Int} (hg : Good n all) : ∀ (ins : List Int) (a : Nat), (∀ i ∈ ins, i ∈ all) → a < 8 → fin1 (setS n ins (2 ^ a)) = ge0 (clkS n ins (a : Int))
  | [], a, _, ha => by
    show decide (pc (2 ^ a) = 1) = decide (0 ≤ (a : Int))
    rw [decide_eq_true (pc_one ⟨a, ha⟩), decide_eq_true (by omega)]
  | i :: is, a, hs, ha => by
    obtain ⟨j, k, rfl, hk⟩ := hg.kid i (hs i (List.mem_cons_self ..))
    rw [setS, clkS, Int.toNat_natCast, hk]
    simp only
    have hs' : ∀ i ∈ is, i ∈ all := fun i hi => hs i (List.mem_cons_of_mem _ hi)
    by_cases h29 : k.op = 29
    · rw [if_pos h29, if_pos h29]; exact one_same hg is a hs' ha
    · rw [if_neg h29, if_neg h29]
      by_cases h34 : k.op = 34
      · rw [if_pos h34, if_neg (fun h => h h34)]
        obtain ⟨c, hc, hc8⟩ := clk_range hg hk h34
        rw [hc, Int.toNat_natCast]
        by_cases e : a = c
        · subst e
          rw [Nat.or_self, if_neg (fun h => h.2 rfl)]
          exact one_same hg is a hs' ha
        · rw [if_pos ⟨by omega, fun h => e (by omega)⟩]
          have h2 := pc_two ⟨a, ha⟩ ⟨c, hc8⟩ e
          have hm : 2 ^ a < 256 := by
            have : 2 ^ a < 2 ^ 8 := Nat.pow_lt_pow_right (by omega) ha
            exact this
          rw [many_no hg is _ hs' (or_small (2 ^ a) c hm hc8).2 h2]
          rfl
      · rw [if_neg h34, if_pos h34]
        rfl
theorem none_same {n : Net} {all : List Int} (hg : Good n all) : ∀ (ins : List Int), (∀ i ∈ ins, i ∈ all) → fin1 (setS n ins 0) = ge0 (clkS n ins (-1))
  | [], _ => by
    show decide (pc 0 = 1) = decide (0 ≤ (-1 : Int))
    decide +kernel
  | i :: is, hs => by
    obtain ⟨j, k, rfl, hk⟩ := hg.kid i (hs i (List.mem_cons_self ..))
    rw [setS, clkS, Int.toNat_natCast, hk]
    simp only
    have hs' : ∀ i ∈ is, i ∈ all := fun i hi => hs i (List.mem_cons_of_mem _ hi)
    by_cases h29 : k.op = 29
    · rw [if_pos h29, if_pos h29]; exact none_same hg is hs'
    · rw [if_neg h29, if_neg h29]
      by_cases h34 : k.op = 34
      · rw [if_pos h34, if_neg (fun h => h h34), if_neg (fun h => absurd h.1 (by decide))]
        obtain ⟨c, hc, hc8⟩ := clk_range hg hk h34
        rw [hc, Int.toNat_natCast, Nat.zero_or]
        exact one_same hg is c hs' hc8
      · rw [if_neg h34, if_pos h34]
        rfl
theorem ok_same {n : Net} {c : Cell} (hg : Good n c.ins) (he : c.op = 29 ∨ c.op = 33 ∨ c.op = 34 → c.ins = []) : okC n c.ins = decide (0 ≤ clockS n c) := by
  show fin1 (setS n c.ins 0) = ge0 (clockS n c)
  unfold clockS
  by_cases hb : c.op = 29 ∨ c.op = 33 ∨ c.op = 34
  · rw [if_pos hb, he hb]
    show decide (pc 0 = 1) = decide (0 ≤ (-1 : Int))
    decide +kernel
  · rw [if_neg hb]
    exact none_same hg c.ins (fun i hi => hi)
/-- Both find the same cells. -/
theorem ret_same {n : Net} (h : ∀ (j : Nat) (c : Cell), n.cells[j]? = some c → Good n c.ins ∧ (c.op = 29 ∨ c.op = 33 ∨ c.op = 34 → c.ins = [])) (k : Nat) : retP n k = retTo n k := by
  unfold retP retTo
  congr 1
  apply List.filter_congr
  intro j _
  unfold okAt clkAt
  cases hj : n.cells[j]? with
  | none => rfl
  | some c => exact ok_same (h j c hj).1 (h j c hj).2
end Go.Proofs.YtkmpjoiefcjbnaaDoor
namespace Go.Proofs.YtkmpjoiefcjbnaaDoor
open Go.RowKit Gs
set_option linter.unusedVariables false
set_option maxRecDepth 100000
theorem net_parts {n : Net} (h : sNetB n = true) : countsB n = true ∧ regsB n = true ∧ sCellsTo n n.cells.length = true := by
  unfold sNetB at h
  simp only [Bool.and_eq_true] at h
  exact ⟨h.1.1.1.1.1.1.1, h.1.1.1.1.1.2, h.1.1.1.1.2⟩
theorem cell_at {n : Net} (h : sCellsTo n n.cells.length = true) {j : Nat} {c : Cell} (hj : n.cells[j]? = some c) : sCellB n j c = true := by
  have hl : j < n.cells.length := (List.getElem?_eq_some_iff.1 hj).1
  have := List.all_eq_true.1 h j (List.mem_range.2 hl)
  unfold sCellAt at this
  rw [hj] at this
  exact this
theorem bare_nil {c : Cell} {wd : Int} (h : bareB c wd = true) : c.ins = [] := by
  unfold bareB at h
  simp only [Bool.and_eq_true, decide_eq_true_eq] at h
  exact List.length_eq_zero_iff.1 h.2
theorem good_of {n : Net} (h : sNetB n = true) : n.cells.length ≤ 4096 ∧ ∀ (j : Nat) (c : Cell), n.cells[j]? = some c → Good n c.ins ∧ (c.op = 29 ∨ c.op = 33 ∨ c.op = 34 → c.ins = []) := by
  obtain ⟨hc, hr, hs⟩ := net_parts h
  unfold countsB at hc
  simp only [Bool.and_eq_true, decide_eq_true_eq] at hc
  refine ⟨by omega, fun j c hj => ?_⟩
  have hcell := cell_at hs hj
  have hjl : j < n.cells.length := (List.getElem?_eq_some_iff.1 hj).1
  have hcell' := hcell
  unfold sCellB at hcell
  rw [Bool.and_eq_true] at hcell
  obtain ⟨hp, hq⟩ := hcell
  unfold placesB at hp
  rw [Bool.and_eq_true] at hp
  refine ⟨⟨fun i hi => ?_, fun q k hk h34 => ?_⟩, fun hop => ?_⟩
  · have hpi := List.all_eq_true.1 hp.2 i hi
    unfold placeB at hpi
    rw [Bool.and_eq_true, decide_eq_true_eq, decide_eq_true_eq] at hpi
    have hil : i.toNat < n.cells.length := by omega
    exact ⟨i.toNat, n.cells[i.toNat], by omega, List.getElem?_eq_getElem hil⟩
  · have hk2 := cell_at hs hk
    unfold sCellB at hk2
    rw [Bool.and_eq_true, if_neg (by omega), if_pos h34] at hk2
    have hk3 := hk2.2
    unfold regB at hk3
    by_cases h0 : 0 ≤ k.n
    · rw [if_pos h0] at hk3
      cases hg : n.regs[k.n.toNat]? with
      | none => rw [hg] at hk3; cases hk3
      | some g =>
        have hgs := List.all_eq_true.1 hr g (List.mem_of_getElem? hg)
        unfold regS at hgs
        simp only [Bool.and_eq_true, decide_eq_true_eq] at hgs
        exact ⟨k.n.toNat, g, by omega, hg, by omega, by omega⟩
    · rw [if_neg h0] at hk3; cases hk3
  · by_cases h33 : c.op = 33
    · rw [if_pos h33] at hq
      unfold inB at hq
      by_cases h0 : 0 ≤ c.n
      · rw [if_pos h0] at hq
        cases hg : n.ins[c.n.toNat]? with
        | none => rw [hg] at hq; cases hq
        | some g => rw [hg] at hq; exact bare_nil hq
      · rw [if_neg h0] at hq; cases hq
    · rw [if_neg h33] at hq
      by_cases h34 : c.op = 34
      · rw [if_pos h34] at hq
        unfold regB at hq
        by_cases h0 : 0 ≤ c.n
        · rw [if_pos h0] at hq
          cases hg : n.regs[c.n.toNat]? with
          | none => rw [hg] at hq; cases hq
          | some g => rw [hg] at hq; exact bare_nil hq
        · rw [if_neg h0] at hq; cases hq
      · have h29 : c.op = 29 := by omega
        rw [if_neg h34, if_neg (by rw [h29]; decide)] at hq
        by_cases hkn : c.op = 29 ∧ (L c.bits).all Vb.knB = false
        · rw [if_pos hkn] at hq; cases hq
        · rw [if_neg hkn] at hq
          unfold exB at hq
          rw [h29] at hq
          simp only [Bool.and_eq_true] at hq
          have hsh := hq.2
          rw [show shapeB 29 c.width c.n c.signed c.bits (c.ins.map (wOf n)) = (decide ((c.ins.map (wOf n)).length = 0) && Vb.okV (L c.bits) && ((c.bits.size : Int) == c.width)) from rfl] at hsh
          simp only [Bool.and_eq_true, decide_eq_true_eq, List.length_map] at hsh
          exact List.length_eq_zero_iff.1 hsh.1.1
end Go.Proofs.YtkmpjoiefcjbnaaDoor
