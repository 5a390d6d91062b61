/- Both answer the same: what the program's CodeOK tells of a code is what the specification's does. -/
import Derived.Test.YtbpcomnneemolaaSQ0
namespace Go.Proofs.Ytbpcomnneemolaa
open Go.RowKit Gs
set_option linter.unusedVariables false
/-- All bits are known just if the word of known bits is full. -/
theorem known_iff (s : ByteArray) (h : Vb.okV (L s) = true) : (Vb.kn (L s) == Vb.ones s.size) = (L s).all Vb.knB := by
  have h64 := ((okV_iff s).1 h).2.1
  rw [Bool.eq_iff_iff, beq_iff_eq, ← L_len s]
  exact Vb.kn_ones (by rw [L_len]; exact h64)
theorem wrap_small {x : Int} (h1 : -1000000 ≤ x) (h2 : x ≤ 1000000) : wrap64 x = x := by
  unfold wrap64; omega
theorem sumW_sumI {xs : List Int} (h : ∀ x ∈ xs, 1 ≤ x ∧ x ≤ 64) (hl : xs.length ≤ 64) : sumW xs = sumI xs := by
  suffices hh : ∀ k, k ≤ xs.length → sumW (xs.take k) = sumI (xs.take k) by
    have := hh xs.length (Nat.le_refl _)
    rwa [List.take_of_length_le (Nat.le_refl _)] at this
  intro k
  induction k with
  | zero => intro _; rfl
  | succ k ih =>
    intro hk
    have hx : xs[k]? = some xs[k] := List.getElem?_eq_getElem (by omega)
    have hb := sumI_take_bound (xs := xs) (fun x hx => ⟨by have := h x hx; omega, (h x hx).2⟩) hl k
    have hxm := h xs[k] (List.getElem_mem _)
    rw [sumW_take hx, sumI_take hx, ih (by omega), wrap_small (by omega) (by omega)]
set_option linter.unusedSimpArgs false
theorem fits_shape24 (op width n : Int) (sg : Bool) (s : ByteArray) (xs : List Int) (h1 : 1 ≤ op) (h24 : op ≤ 24) : fitsOp op width n sg s xs = shapeB op width n sg s xs := by
  have : op = 1 ∨ op = 2 ∨ op = 3 ∨ op = 4 ∨ op = 5 ∨ op = 6 ∨ op = 7 ∨ op = 8 ∨ op = 9 ∨ op = 10 ∨ op = 11 ∨ op = 12 ∨ op = 13 ∨ op = 14 ∨ op = 15 ∨ op = 16 ∨ op = 17 ∨ op = 18 ∨ op = 19 ∨ op = 20 ∨ op = 21 ∨ op = 22 ∨ op = 23 ∨ op = 24 := by omega
  rcases this with rfl | rfl | rfl | rfl | rfl | rfl | rfl | rfl | rfl | rfl | rfl | rfl | rfl | rfl | rfl | rfl | rfl | rfl | rfl | rfl | rfl | rfl | rfl | rfl
  all_goals
    rcases xs with _ | ⟨x, _ | ⟨y, _ | ⟨z, t⟩⟩⟩
    all_goals
      rw [Bool.eq_iff_iff]
      simp [fitsOp, shapeB, fitsO, fits1, fits2, bitOp, anyW, sh1, sh2]
      try omega
theorem fits_shape (op width n : Int) (sg : Bool) (s : ByteArray) (xs : List Int) (h1 : 1 ≤ op) (h29 : op ≤ 29) (hw1 : 1 ≤ width) (hw2 : width ≤ 64) (hx : ∀ x ∈ xs, 1 ≤ x ∧ x ≤ 64) (hl : xs.length ≤ 64) : fitsOp op width n sg s xs = shapeB op width n sg s xs := by
  by_cases h24 : op ≤ 24
  · exact fits_shape24 op width n sg s xs h1 h24
  obtain rfl | rfl | rfl | rfl | rfl : op = 25 ∨ op = 26 ∨ op = 27 ∨ op = 28 ∨ op = 29 := by omega
  · rcases xs with _ | ⟨x, _ | ⟨y, _ | ⟨z, _ | ⟨u, t⟩⟩⟩⟩ <;> simp [fitsOp, shapeB, fits25, sh3]
  · show (sumW xs == width) = (sumI xs == width)
    rw [sumW_sumI hx hl]
  · rcases xs with _ | ⟨x, _ | ⟨y, t⟩⟩
    · rfl
    · have h := hx x (by simp)
      show (decide (0 ≤ n) && decide (n ≤ wrap64 (x - width))) = (decide (0 ≤ n) && decide (n ≤ 64) && decide (n + width ≤ x))
      rw [wrap_small (by omega) (by omega), Bool.eq_iff_iff]
      simp
      omega
    · rfl
  · rcases xs with _ | ⟨x, _ | ⟨y, t⟩⟩
    · rfl
    · show ((x != width) && (decide (x < width) || !sg)) = ((x != width) && (!sg || decide (x < width)))
      rw [Bool.or_comm]
    · rfl
  · show fits29 width s xs = (decide (xs.length = 0) && Vb.okV (L s) && ((s.size : Int) == width))
    unfold fits29
    rw [show xs.isEmpty = decide (xs.length = 0) from by cases xs <;> simp, Bool.and_assoc, Bool.and_assoc, Bool.and_comm (Vb.okV (L s))]
theorem only_bools : ∀ a b c d e f g sg : Bool, ((a || b) && (c || (false || false || d || e) || !sg) && (f || g)) = ((g || f) && (b || a || false) && (!sg || d || e || c)) := by decide
theorem only_fields (op n : Int) (sg : Bool) (s : ByteArray) (h7 : op ≠ 7) (h8 : op ≠ 8) (h29 : op ≤ 29) : onlyN op n sg s = fieldsB op n sg s := by
  unfold onlyN fieldsB signOp
  rw [decide_eq_false h7, decide_eq_false h8, decide_eq_false (show ¬ 30 ≤ op by omega)]
  exact only_bools _ _ _ _ _ _ _ _
def badOp (op : Int) : Bool := decide (op = 7) || decide (op = 8) || decide (op = 11) || decide (op = 30) || decide (op = 31) || decide (op = 32)
/-- A cell that is like an Ex, of kids with right widths: both say the same. -/
theorem like_same (op width n : Int) (sg : Bool) (s : ByteArray) (xs : List Int) (h33 : op ≠ 33) (h34 : op ≠ 34) (hx : ∀ x ∈ xs, 1 ≤ x ∧ x ≤ 64) (hl : xs.length ≤ 64) :
    likeB op width n sg s xs = (if badOp op = true then false else if op = 29 ∧ (L s).all Vb.knB = false then false else exB op width n sg s xs) := by
  by_cases hr : 1 ≤ op ∧ op ≤ 29 ∧ op ≠ 7 ∧ op ≠ 8 ∧ op ≠ 11
  · obtain ⟨r1, r2, r7, r8, r11⟩ := hr
    have hb : badOp op = false := by
      unfold badOp
      simp only [Bool.or_eq_false_iff, decide_eq_false_iff_not]
      omega
    have hc : cellOp op = true := by
      unfold cellOp
      simp only [Bool.and_eq_true, decide_eq_true_eq]
      omega
    rw [if_neg (by rw [hb]; decide)]
    have hmain : (cellOp op && (decide (1 ≤ width) && decide (width ≤ 64)) && onlyN op n sg s && fitsOp op width n sg s xs) = exB op width n sg s xs := by
      unfold exB
      rw [hc, only_fields op n sg s r7 r8 r2, Bool.true_and]
      by_cases hw : 1 ≤ width ∧ width ≤ 64
      · rw [fits_shape op width n sg s xs r1 r2 hw.1 hw.2 hx hl]
      · rw [show (decide (1 ≤ width) && decide (width ≤ 64)) = false from by rw [Bool.and_eq_false_iff, decide_eq_false_iff_not, decide_eq_false_iff_not]; omega]
        simp
    unfold likeB
    rw [hmain]
    by_cases h29 : op = 29
    · subst h29
      cases hv : Vb.okV (L s)
      · have hk : knownS s = false := by unfold knownS; rw [hv]; rfl
        have hz : exB 29 width n sg s xs = false := by
          unfold exB
          rw [show shapeB 29 width n sg s xs = (decide (xs.length = 0) && Vb.okV (L s) && ((s.size : Int) == width)) from rfl, hv]
          simp
        rw [if_pos ⟨rfl, hk⟩, hz]
        simp
      · have hk : knownS s = (L s).all Vb.knB := by unfold knownS; rw [hv, known_iff s hv]; rfl
        rw [hk]
    · rw [if_neg (fun h => h29 h.1), if_neg (fun h => h29 h.1)]
  · have hl0 : likeB op width n sg s xs = false := by
      unfold likeB
      have hc : cellOp op = false := by
        rw [← Bool.not_eq_true]
        intro h
        unfold cellOp at h
        simp only [Bool.and_eq_true, decide_eq_true_eq] at h
        omega
      rw [hc]
      simp
    rw [hl0]
    by_cases hb : badOp op = true
    · rw [if_pos hb]
    · rw [if_neg hb, if_neg (fun h => by
        have := h.1
        omega)]
      have hb' : badOp op = false := by simpa using hb
      unfold badOp at hb'
      simp only [Bool.or_eq_false_iff, decide_eq_false_iff_not] at hb'
      have hs : shapeB op width n sg s xs = false := by
        unfold shapeB
        by_cases h0 : op < 1
        · rw [if_pos h0]
        · rw [if_neg h0, if_neg (by omega), if_neg (by omega), if_neg (by omega), if_neg (by omega), if_neg (by omega), if_neg (by omega), if_neg (by omega), if_neg (by omega), if_neg (by omega), if_neg (by omega), if_neg (by omega)]
      unfold exB
      rw [hs, Bool.and_false]
/-- How many slots: where the document gives a number, the program's table has it. -/
theorem takes_args {op : Int} (h : 0 ≤ argsOf op) : 0 ≤ op ∧ op < 35 ∧ (takesOf op.toNat).toNat = (argsOf op).toNat := by
  by_cases hr : 0 ≤ op ∧ op ≤ 34
  · refine ⟨hr.1, by omega, ?_⟩
    have hc : op = 0 ∨ op = 1 ∨ op = 2 ∨ op = 3 ∨ op = 4 ∨ op = 5 ∨ op = 6 ∨ op = 7 ∨ op = 8 ∨ op = 9 ∨ op = 10 ∨ op = 11 ∨ op = 12 ∨ op = 13 ∨ op = 14 ∨ op = 15 ∨ op = 16 ∨ op = 17 ∨ op = 18 ∨ op = 19 ∨ op = 20 ∨ op = 21 ∨ op = 22 ∨ op = 23 ∨ op = 24 ∨ op = 25 ∨ op = 26 ∨ op = 27 ∨ op = 28 ∨ op = 29 ∨ op = 30 ∨ op = 31 ∨ op = 32 ∨ op = 33 ∨ op = 34 := by omega
    revert h
    clear hr
    rcases hc with rfl | rfl | rfl | rfl | rfl | rfl | rfl | rfl | rfl | rfl | rfl | rfl | rfl | rfl | rfl | rfl | rfl | rfl | rfl | rfl | rfl | rfl | rfl | rfl | rfl | rfl | rfl | rfl | rfl | rfl | rfl | rfl | rfl | rfl | rfl <;> decide
  · exfalso
    unfold argsOf at h
    rw [if_neg (by omega), if_neg (by omega), if_neg (by omega), if_neg (by omega), if_neg (by omega)] at h
    omega
/-- Where the document gives no number, no cell is like it. -/
theorem like_none {op width n : Int} {sg : Bool} {s : ByteArray} {xs : List Int} (h : ¬ 0 ≤ argsOf op) : likeB op width n sg s xs = false ∧ op ≠ 33 ∧ op ≠ 34 := by
  have hc : cellOp op = false := by
    rw [← Bool.not_eq_true]
    intro h2
    unfold cellOp at h2
    simp only [Bool.and_eq_true, decide_eq_true_eq] at h2
    apply h
    unfold argsOf
    by_cases h3 : op = 7 ∨ op = 8 ∨ op = 11
    · exfalso
      have := h2
      omega
    · rw [if_neg h3]
      repeat' split
      all_goals first | decide | (exfalso; omega)
  refine ⟨?_, fun e => ?_, fun e => ?_⟩
  · unfold likeB; rw [hc]; simp
  · subst e; exact h (by decide)
  · subst e; exact h (by decide)
theorem instr_same {c : Code} {ws : List Int} (hr : ∀ x ∈ ws, 0 ≤ x ∧ x ≤ 64) (x : Instr) : instrB c ws x = instrS c ws x := by
  unfold instrB instrS
  by_cases hA : 0 ≤ argsOf x.op
  · obtain ⟨o1, o2, ht⟩ := takes_args hA
    have htk : tkN x = (argsOf x.op).toNat := ht
    rw [if_pos hA, if_pos ⟨o1, o2⟩, htk]
    by_cases hd : 0 ≤ x.dst ∧ x.dst < (ws.length : Int)
    · rw [if_pos hd, if_pos hd]
      by_cases hrd : readB ws (argsOf x.op).toNat [x.a, x.b, x.c] = true
      · rw [if_pos hrd, if_pos hrd]
        by_cases h33 : x.op = 33
        · rw [if_pos h33, if_pos h33]
        · rw [if_neg h33, if_neg h33]
          by_cases h34 : x.op = 34
          · rw [if_pos h34, if_pos h34]
          · rw [if_neg h34, if_neg h34]
            rw [like_same x.op x.width x.n x.signed x.bits _ h33 h34 (kid_range hrd hr) (Nat.le_trans (kidW_len _ _ _) (by simp))]
            have hb : badOp x.op = false := by
              obtain ⟨p7, p8, p30⟩ := args_op hA
              have p11 : x.op ≠ 11 := fun e => by rw [e] at hA; exact absurd hA (by decide)
              unfold badOp
              simp only [Bool.or_eq_false_iff, decide_eq_false_iff_not]
              omega
            rw [if_neg (by rw [hb]; decide)]
            by_cases h29 : x.op = 29
            · rw [decide_eq_true h29]
              cases hk : (L x.bits).all Vb.knB
              · rw [if_pos ⟨h29, rfl⟩]; simp
              · rw [if_neg (fun h => by cases h.2)]; simp
            · rw [decide_eq_false h29, if_neg (fun h => h29 h.1)]; simp
      · rw [if_neg hrd, if_neg hrd]
    · rw [if_neg hd, if_neg hd]
  · rw [if_neg hA]
    obtain ⟨hl, h33, h34⟩ := like_none (width := x.width) (n := x.n) (sg := x.signed) (s := x.bits) (xs := kidW ws (tkN x) [x.a, x.b, x.c]) hA
    rw [if_neg h33, if_neg h34, hl]
    repeat' split
    all_goals rfl
theorem run_same {c : Code} (h1 : c.ins.all wOK = true) (h2 : initsS c = true) : ∀ (xs : List Instr) (ws : List Int), (∀ x ∈ ws, 0 ≤ x ∧ x ≤ 64) → runI c xs ws = runS c xs ws
  | [], ws, _ => rfl
  | x :: xs, ws, hr => by
    rw [runI, runS, instr_same hr x]
    by_cases h : instrS c ws x = true
    · rw [if_pos h, if_pos h]
      obtain ⟨_, w1, w2⟩ := instrS_open h1 h2 h
      refine run_same h1 h2 xs _ (fun y hy => ?_)
      rcases List.mem_or_eq_of_mem_set hy with h' | h'
      · exact hr y h'
      · subst h'; omega
    · rw [if_neg h, if_neg h]
theorem inits_same (c : Code) (he : c.ticks.length = c.inits.length) : (c.inits.all knownS && c.ticks.all (plOK c.clocks)) = initsS c := by
  rw [Bool.eq_iff_iff, Bool.and_eq_true]
  have key : ∀ t : ByteArray, knownS t = (Vb.okV (L t) && (L t).all Vb.knB) := fun t => by
    unfold knownS
    cases h : Vb.okV (L t)
    · rfl
    · rw [known_iff t h]
  constructor
  · rintro ⟨ha, hb⟩
    unfold initsS
    rw [List.all_eq_true]
    rintro ⟨t, i⟩ hm
    have ht : c.inits[i]? = some t := by
      rw [List.mem_zipIdx_iff_getElem?] at hm; exact hm
    have hi : i < c.ticks.length := by rw [he]; exact (List.getElem?_eq_some_iff.1 ht).1
    unfold initS
    simp only
    rw [← key t, List.all_eq_true.1 ha t (List.mem_of_getElem? ht), List.getElem?_eq_getElem hi]
    simp only [Bool.true_and]
    exact List.all_eq_true.1 hb _ (List.getElem_mem hi)
  · intro h
    constructor
    · rw [List.all_eq_true]
      intro t ht
      obtain ⟨i, hi⟩ := List.mem_iff_getElem?.1 ht
      have := init_ok h hi
      unfold initS at this
      simp only [Bool.and_eq_true] at this
      rw [key t, this.1.1, this.1.2]; rfl
    · rw [List.all_eq_true]
      intro y hy
      obtain ⟨i, hi⟩ := List.mem_iff_getElem?.1 hy
      have hl : i < c.inits.length := by rw [← he]; exact (List.getElem?_eq_some_iff.1 hi).1
      have := init_ok h (List.getElem?_eq_getElem hl)
      unfold initS at this
      simp only [Bool.and_eq_true] at this
      rw [hi] at this
      exact this.2
/-- Both answer the same. -/
theorem code_same (c : Code) : codeI c = sCode c := by
  unfold codeI sCode
  cases hc : countsC c
  · rfl
  · obtain ⟨_, _, _, _, _, _, _, _, he, _⟩ := countsC_open hc
    unfold portsC
    rw [Bool.and_assoc (c.ins.all wOK), inits_same c he, Bool.true_and, Bool.true_and]
    cases h1 : c.ins.all wOK
    · rfl
    · cases h2 : initsS c
      · rfl
      · rw [run_same h1 h2 c.instrs _ (fun x hx => by have := List.eq_of_mem_replicate hx; omega)]
        rfl
end Go.Proofs.Ytbpcomnneemolaa
