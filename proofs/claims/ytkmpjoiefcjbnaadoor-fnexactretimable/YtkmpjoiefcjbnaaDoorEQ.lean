/- Both answer the same: what the program's NetOK tells of a netlist is what the specification's does. -/
import Derived.Test.YtkmpjoiefcjbnaaDoorSK0
namespace Go.Proofs.YtkmpjoiefcjbnaaDoor
open Go.RowKit Gs
set_option linter.unusedVariables false
/-- All bits are known just if the word of known bits is full. -/
theorem known_iff (s : ByteArray) (h : Vb.okV (L s) = true) : (Vb.kn (L s) == Vb.ones s.size) = (L s).all Vb.knB := by
  have h64 := ((okV_iff s).1 h).2.1
  rw [Bool.eq_iff_iff, beq_iff_eq, ← L_len s]
  exact Vb.kn_ones (by rw [L_len]; exact h64)
theorem namesB_perm {a b : List ByteArray} (h : a.Perm b) : namesB a = namesB b := by
  unfold namesB
  congr 1
  · rw [Bool.eq_iff_iff, List.all_eq_true, List.all_eq_true]
    exact ⟨fun k x hx => k x (h.mem_iff.2 hx), fun k x hx => k x (h.mem_iff.1 hx)⟩
  · exact decide_eq_decide.2 h.nodup_iff
theorem names_same (n : Net) : netNames n = snamesB n := by
  unfold netNames snamesB
  rw [namesB_perm List.perm_append_comm]
theorem regS_iff (n : Net) (r : NetReg) : regFitB n r = (regS n r && nextB n r) := by
  unfold regFitB regOne regS knownS
  cases h : Vb.okV (L r.init)
  · simp
  · rw [known_iff _ h]
theorem wrap_small {x : Int} (h1 : -1000000 ≤ x) (h2 : x ≤ 1000000) : wrap64 x = x := by
  unfold wrap64; omega
theorem sumW_sumI {xs : List Int} (h : ∀ x ∈ xs, 1 ≤ x ∧ x ≤ 64) (hl : xs.length ≤ 64) : sumW xs = sumI xs := by
  suffices hh : ∀ k, k ≤ xs.length → sumW (xs.take k) = sumI (xs.take k) by
    have := hh xs.length (Nat.le_refl _)
    rwa [List.take_of_length_le (Nat.le_refl _)] at this
  intro k
  induction k with
  | zero => intro _; rfl
  | succ k ih =>
    intro hk
    have hx : xs[k]? = some xs[k] := List.getElem?_eq_getElem (by omega)
    have hb := sumI_take_bound (xs := xs) (fun x hx => ⟨by have := h x hx; omega, (h x hx).2⟩) hl k
    have hxm := h xs[k] (List.getElem_mem _)
    rw [sumW_take hx, sumI_take hx, ih (by omega), wrap_small (by omega) (by omega)]
set_option linter.unusedSimpArgs false
theorem fits_shape24 (op width n : Int) (sg : Bool) (s : ByteArray) (xs : List Int) (h1 : 1 ≤ op) (h24 : op ≤ 24) : fitsOp op width n sg s xs = shapeB op width n sg s xs := by
  have : op = 1 ∨ op = 2 ∨ op = 3 ∨ op = 4 ∨ op = 5 ∨ op = 6 ∨ op = 7 ∨ op = 8 ∨ op = 9 ∨ op = 10 ∨ op = 11 ∨ op = 12 ∨ op = 13 ∨ op = 14 ∨ op = 15 ∨ op = 16 ∨ op = 17 ∨ op = 18 ∨ op = 19 ∨ op = 20 ∨ op = 21 ∨ op = 22 ∨ op = 23 ∨ op = 24 := by omega
  rcases this with rfl | rfl | rfl | rfl | rfl | rfl | rfl | rfl | rfl | rfl | rfl | rfl | rfl | rfl | rfl | rfl | rfl | rfl | rfl | rfl | rfl | rfl | rfl | rfl
  all_goals
    rcases xs with _ | ⟨x, _ | ⟨y, _ | ⟨z, t⟩⟩⟩
    all_goals
      rw [Bool.eq_iff_iff]
      simp [fitsOp, shapeB, fitsO, fits1, fits2, bitOp, anyW, sh1, sh2]
      try omega
theorem fits_shape (op width n : Int) (sg : Bool) (s : ByteArray) (xs : List Int) (h1 : 1 ≤ op) (h29 : op ≤ 29) (hw1 : 1 ≤ width) (hw2 : width ≤ 64) (hx : ∀ x ∈ xs, 1 ≤ x ∧ x ≤ 64) (hl : xs.length ≤ 64) : fitsOp op width n sg s xs = shapeB op width n sg s xs := by
  by_cases h24 : op ≤ 24
  · exact fits_shape24 op width n sg s xs h1 h24
  obtain rfl | rfl | rfl | rfl | rfl : op = 25 ∨ op = 26 ∨ op = 27 ∨ op = 28 ∨ op = 29 := by omega
  · rcases xs with _ | ⟨x, _ | ⟨y, _ | ⟨z, _ | ⟨u, t⟩⟩⟩⟩ <;> simp [fitsOp, shapeB, fits25, sh3]
  · show (sumW xs == width) = (sumI xs == width)
    rw [sumW_sumI hx hl]
  · rcases xs with _ | ⟨x, _ | ⟨y, t⟩⟩
    · rfl
    · have h := hx x (by simp)
      show (decide (0 ≤ n) && decide (n ≤ wrap64 (x - width))) = (decide (0 ≤ n) && decide (n ≤ 64) && decide (n + width ≤ x))
      rw [wrap_small (by omega) (by omega), Bool.eq_iff_iff]
      simp
      omega
    · rfl
  · rcases xs with _ | ⟨x, _ | ⟨y, t⟩⟩
    · rfl
    · show ((x != width) && (decide (x < width) || !sg)) = ((x != width) && (!sg || decide (x < width)))
      rw [Bool.or_comm]
    · rfl
  · show fits29 width s xs = (decide (xs.length = 0) && Vb.okV (L s) && ((s.size : Int) == width))
    unfold fits29
    rw [show xs.isEmpty = decide (xs.length = 0) from by cases xs <;> simp, Bool.and_assoc, Bool.and_assoc, Bool.and_comm (Vb.okV (L s))]
theorem only_bools : ∀ a b c d e f g sg : Bool, ((a || b) && (c || (false || false || d || e) || !sg) && (f || g)) = ((g || f) && (b || a || false) && (!sg || d || e || c)) := by decide
theorem only_fields (op n : Int) (sg : Bool) (s : ByteArray) (h7 : op ≠ 7) (h8 : op ≠ 8) (h29 : op ≤ 29) : onlyN op n sg s = fieldsB op n sg s := by
  unfold onlyN fieldsB signOp
  rw [decide_eq_false h7, decide_eq_false h8, decide_eq_false (show ¬ 30 ≤ op by omega)]
  exact only_bools _ _ _ _ _ _ _ _
/-- A cell that is like an Ex, of kids with right widths: both say the same. -/
theorem like_same (op width n : Int) (sg : Bool) (s : ByteArray) (xs : List Int) (h33 : op ≠ 33) (h34 : op ≠ 34) (hx : ∀ x ∈ xs, 1 ≤ x ∧ x ≤ 64) (hl : xs.length ≤ 64) :
    likeB op width n sg s xs = (if badOp op = true then false else if op = 29 ∧ (L s).all Vb.knB = false then false else exB op width n sg s xs) := by
  by_cases hr : 1 ≤ op ∧ op ≤ 29 ∧ op ≠ 7 ∧ op ≠ 8 ∧ op ≠ 11
  · obtain ⟨r1, r2, r7, r8, r11⟩ := hr
    have hb : badOp op = false := by
      unfold badOp
      simp only [Bool.or_eq_false_iff, decide_eq_false_iff_not]
      omega
    have hc : cellOp op = true := by
      unfold cellOp
      simp only [Bool.and_eq_true, decide_eq_true_eq]
      omega
    rw [if_neg (by rw [hb]; decide)]
    have hmain : (cellOp op && (decide (1 ≤ width) && decide (width ≤ 64)) && onlyN op n sg s && fitsOp op width n sg s xs) = exB op width n sg s xs := by
      unfold exB
      rw [hc, only_fields op n sg s r7 r8 r2, Bool.true_and]
      by_cases hw : 1 ≤ width ∧ width ≤ 64
      · rw [fits_shape op width n sg s xs r1 r2 hw.1 hw.2 hx hl]
      · rw [show (decide (1 ≤ width) && decide (width ≤ 64)) = false from by rw [Bool.and_eq_false_iff, decide_eq_false_iff_not, decide_eq_false_iff_not]; omega]
        simp
    unfold likeB
    rw [hmain]
    by_cases h29 : op = 29
    · subst h29
      cases hv : Vb.okV (L s)
      · have hk : knownS s = false := by unfold knownS; rw [hv]; rfl
        have hz : exB 29 width n sg s xs = false := by
          unfold exB
          rw [show shapeB 29 width n sg s xs = (decide (xs.length = 0) && Vb.okV (L s) && ((s.size : Int) == width)) from rfl, hv]
          simp
        rw [if_pos ⟨rfl, hk⟩, hz]
        simp
      · have hk : knownS s = (L s).all Vb.knB := by unfold knownS; rw [hv, known_iff s hv]; rfl
        rw [hk]
    · rw [if_neg (fun h => h29 h.1), if_neg (fun h => h29 h.1)]
  · have hl0 : likeB op width n sg s xs = false := by
      unfold likeB
      have hc : cellOp op = false := by
        rw [← Bool.not_eq_true]
        intro h
        unfold cellOp at h
        simp only [Bool.and_eq_true, decide_eq_true_eq] at h
        omega
      rw [hc]
      simp
    rw [hl0]
    by_cases hb : badOp op = true
    · rw [if_pos hb]
    · rw [if_neg hb, if_neg (fun h => by
        have := h.1
        omega)]
      have hb' : badOp op = false := by simpa using hb
      unfold badOp at hb'
      simp only [Bool.or_eq_false_iff, decide_eq_false_iff_not] at hb'
      have hs : shapeB op width n sg s xs = false := by
        unfold shapeB
        by_cases h0 : op < 1
        · rw [if_pos h0]
        · rw [if_neg h0, if_neg (by omega), if_neg (by omega), if_neg (by omega), if_neg (by omega), if_neg (by omega), if_neg (by omega), if_neg (by omega), if_neg (by omega), if_neg (by omega), if_neg (by omega), if_neg (by omega)]
      unfold exB
      rw [hs, Bool.and_false]
theorem cell_same (n : Net) (j : Nat) (c : Cell) (hW : ∀ i, i < j → 1 ≤ wOf n (i : Int) ∧ wOf n (i : Int) ≤ 64) : cellB n j c = sCellB n j c := by
  unfold cellB sCellB
  have bare0 : ∀ (wd : Int), placesB j c.ins = false → bareB c wd = false := fun wd h => by
    unfold bareB
    by_cases l0 : c.ins.length = 0
    · have : c.ins = [] := List.length_eq_zero_iff.1 l0
      rw [this] at h
      simp [placesB] at h
    · rw [decide_eq_false l0, Bool.and_false]
  by_cases h33 : c.op = 33
  · rw [if_pos h33, if_pos h33]
    cases hp : placesB j c.ins
    · unfold inB
      split
      · split
        · rw [bare0 _ hp]; rfl
        · rfl
      · rfl
    · rfl
  rw [if_neg h33, if_neg h33]
  by_cases h34 : c.op = 34
  · rw [if_pos h34, if_pos h34]
    cases hp : placesB j c.ins
    · unfold regB
      split
      · split
        · rw [bare0 _ hp]; rfl
        · rfl
      · rfl
    · rfl
  rw [if_neg h34, if_neg h34]
  unfold restB
  by_cases h64 : 64 < c.ins.length
  · rw [if_pos h64, show placesB j c.ins = false from by unfold placesB; rw [decide_eq_false (by omega)]; rfl]
    rfl
  rw [if_neg h64]
  cases ha : c.ins.all (placeB j)
  · rw [show placesB j c.ins = false from by unfold placesB; rw [ha, Bool.and_false]]
    rfl
  · rw [show placesB j c.ins = true from by unfold placesB; rw [ha, decide_eq_true (by omega)]; rfl, Bool.true_and, if_pos rfl]
    refine like_same c.op c.width c.n c.signed c.bits (c.ins.map (wOf n)) h33 h34 ?_ (by rw [List.length_map]; omega)
    intro x hx
    obtain ⟨y, hy, rfl⟩ := List.mem_map.1 hx
    have hp := List.all_eq_true.1 ha y hy
    unfold placeB at hp
    rw [Bool.and_eq_true, decide_eq_true_eq, decide_eq_true_eq] at hp
    obtain ⟨i, rfl⟩ : ∃ i : Nat, y = (i : Int) := ⟨y.toNat, by omega⟩
    exact hW i (by omega)
/-- Cells that are right have right widths. -/
theorem cell_width {n : Net} {j : Nat} {c : Cell} (hi : insB n = true) (hr : regsB n = true) (hc : sCellB n j c = true) : 1 ≤ c.width ∧ c.width ≤ 64 := by
  unfold sCellB at hc
  rw [Bool.and_eq_true] at hc
  have hc2 := hc.2
  by_cases h33 : c.op = 33
  · rw [if_pos h33] at hc2
    unfold inB at hc2
    split at hc2
    · split at hc2
      · rename_i p hp
        unfold bareB at hc2
        simp only [Bool.and_eq_true, decide_eq_true_eq] at hc2
        have hw := List.all_eq_true.1 hi p (List.mem_of_getElem? hp)
        unfold wOK at hw
        rw [Bool.and_eq_true, decide_eq_true_eq, decide_eq_true_eq] at hw
        rw [hc2.1.1.1]; exact hw
      · cases hc2
    · cases hc2
  rw [if_neg h33] at hc2
  by_cases h34 : c.op = 34
  · rw [if_pos h34] at hc2
    unfold regB at hc2
    split at hc2
    · split at hc2
      · rename_i p hp
        unfold bareB at hc2
        simp only [Bool.and_eq_true, decide_eq_true_eq] at hc2
        have hw := List.all_eq_true.1 hr p (List.mem_of_getElem? hp)
        unfold regS at hw
        simp only [Bool.and_eq_true, decide_eq_true_eq] at hw
        have ho := (okV_iff _).1 hw.1.1.1
        rw [hc2.1.1.1]; omega
      · cases hc2
    · cases hc2
  rw [if_neg h34] at hc2
  split at hc2
  · cases hc2
  · split at hc2
    · cases hc2
    · unfold exB at hc2
      simp only [Bool.and_eq_true, decide_eq_true_eq] at hc2
      exact hc2.1.1
theorem widths_of {n : Net} (hi : insB n = true) (hr : regsB n = true) : ∀ k, sCellsTo n k = true → ∀ i, i < k → 1 ≤ wOf n (i : Int) ∧ wOf n (i : Int) ≤ 64 := by
  intro k hk i hik
  have h := List.all_eq_true.1 hk i (List.mem_range.2 hik)
  unfold sCellAt at h
  unfold wOf
  rw [Int.toNat_natCast]
  split at h
  · rename_i c hc
    rw [hc]
    exact cell_width hi hr h
  · cases h
theorem cells_same {n : Net} (hi : insB n = true) (hr : regsB n = true) : ∀ k, cellsTo n k = sCellsTo n k
  | 0 => rfl
  | k + 1 => by
    rw [cellsTo_succ, sCellsTo_succ, cells_same hi hr k]
    cases h : sCellsTo n k
    · rfl
    · rw [Bool.true_and, Bool.true_and]
      unfold cellAt sCellAt
      cases hc : n.cells[k]? with
      | none => rfl
      | some c => exact cell_same n k c (widths_of hi hr k h)
theorem all_and {α : Type} (p q : α → Bool) (xs : List α) : xs.all (fun x => p x && q x) = (xs.all p && xs.all q) := by
  induction xs with
  | nil => rfl
  | cons x xs ih => simp only [List.all_cons, ih]; cases p x <;> cases q x <;> simp
/-- Both answer the same. -/
theorem net_same (n : Net) : netB n = sNetB n := by
  have hp : portsB n = (insB n && (regsB n && nextsB n) && outsB n && checksB n) := by
    unfold portsB insB regsB nextsB outsB checksB
    rw [show (regFitB n) = fun r => regS n r && nextB n r from funext (regS_iff n), all_and]
  unfold netB sNetB
  rw [hp, names_same]
  cases hi : insB n
  · simp
  · cases hr : regsB n
    · simp
    · rw [cells_same hi hr]
      generalize countsB n = a
      generalize sCellsTo n n.cells.length = b
      generalize nextsB n = c
      generalize outsB n = d
      generalize checksB n = e
      generalize snamesB n = f
      revert a b c d e f
      decide
end Go.Proofs.YtkmpjoiefcjbnaaDoor
