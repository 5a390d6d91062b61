/- The specification's ex, however deep. -/
import Derived.Test.YtgkfhaahcedbpaaSE1
import Derived.Test.YtgkfhaahcedbpaaP9
import Derived.Test.YtgkfhaahcedbpaaGSHd
import Derived.Test.YtgkfhaahcedbpaaSF1
namespace Go.Proofs.Ytgkfhaahcedbpaa
open Go Go.RowKit Gs
set_option linter.unusedVariables false
theorem sExAll (sg : List Signal) (w0 : World) (sv pv : Value) (T : TypeId) (hsg : RS 6 RSignal w0 0 sg sv) (hsl : sg.length ≤ 1048576) : ∀ d, ExC sg w0 sv pv T d
  | 0 => fun x u deep k W hr => hr.elim
  | d + 1 => sExStep sg w0 sv pv T d hsg hsl (sExAll sg w0 sv pv T hsg hsl d)
end Go.Proofs.Ytgkfhaahcedbpaa
namespace Go.Proofs.Ytgkfhaahcedbpaa
open Go Go.RowKit Gs
set_option linter.unusedVariables false
set_option linter.unusedSimpArgs false
set_option maxRecDepth 100000

/-- What the specification's st does, of statements as deep as d. -/
def StC (sg : List Signal) (p : Int) (w0 : World) (sv pv : Value) (T : TypeId) (d : Nat) : Prop := ∀ (x : St) (u : List Value) (deep : Int) (k : Nat) (W : World), RStN d w0 0 x u → 1 ≤ deep → deep ≤ 401 → k ≤ 16384 → Pb w0.heap.size sv pv T W k → Below w0.heap.size w0 W →
  Calls Try.prog 12 #[.pointer (some ⟨w0.heap.size, 0, none⟩), .agg u.toArray, .int .i64 p, .int .i64 deep] W fun e W' => ∃ (r : Bool) (k' : Int), e = .returned (.bool r) ∧ r = (okSN sg (stOf p) (setOf p) d deep x && decide (cntSN d x ≤ k)) ∧ (r = true → k' = (k : Int) - (cntSN d x : Nat)) ∧ Pb w0.heap.size sv pv T W' k' ∧ Fx w0.heap.size W W'
set_option maxHeartbeats 8000000 in
theorem sStNo (w0 : World) (sv pv : Value) (T : TypeId) (p kind n low wide : Int) (ka kb : Option Addr) (L L2 kc kc2 : Nat) (deep : Int) (k : Nat) (W : World) (hk : k ≤ 16384) (hpb : Pb w0.heap.size sv pv T W k) (hbad : k = 0 ∨ 400 < deep) :
    Calls Try.prog 12 #[.pointer (some ⟨w0.heap.size, 0, none⟩), .agg #[.int .i64 kind, .int .i64 n, .int .i64 low, .int .i64 wide, .slice ka L kc, .slice kb L2 kc2], .int .i64 p, .int .i64 deep] W fun e W' => e = .returned (.bool false) ∧ Pb w0.heap.size sv pv T W' ((k : Int) - 1) ∧ Fx w0.heap.size W W' := by
  have c2 := hpb.c2
  have fr := hpb.free
  have hpl := hpb.lt
  have HP := hide (fun o => (hpb.set ((k : Int) - 1)).later (bal (brf _) o))
  have HX := hide (fun o => (Fx.set w0.heap.size 2 W (.int .i64 ((k : Int) - 1))).trans (Fx.of (bal (brf _) o)))
  obtain ⟨m, hm⟩ : ∃ m, (k : Int) - 1 = m := ⟨_, rfl⟩
  rw [hm] at HP HX ⊢
  by_cases h0 : m < 0
  · clear hpb hbad
    go_enter Try.func12, Try.ntmps12
    go_wp2
    go_ret
    exact ⟨rfl, unhide HP _, unhide HX _⟩
  · have h1 : 400 < deep := by omega
    clear hpb hbad
    go_enter Try.func12, Try.ntmps12
    go_wp2
    go_ret
    exact ⟨rfl, unhide HP _, unhide HX _⟩
end Go.Proofs.Ytgkfhaahcedbpaa
namespace Go.Proofs.Ytgkfhaahcedbpaa
open Go Go.RowKit Gs
set_option linter.unusedVariables false
set_option linter.unusedSimpArgs false
set_option maxRecDepth 100000
theorem formS_plain (sg : List Signal) (tg : Nat) (n low wide : Int) (kw : List Int) (nk L : Nat) (hl : kw.length = L) :
    formS sg tg 1 n low wide kw nk = plainB n low wide L nk 0 0 nk ∧ formS sg tg 4 n low wide kw nk = plainB n low wide L nk 0 1 2 ∧ formS sg tg 5 n low wide kw nk = ((decide (0 ≤ n) && decide (n ≤ 1000000)) && plainB n low wide L nk n 0 0) ∧ formS sg tg 6 n low wide kw nk = plainB n low wide L nk 0 0 0 ∧ formS sg tg 7 n low wide kw nk = plainB n low wide L nk 0 1 0 := by
  subst hl
  refine ⟨?_, ?_, ?_, ?_, ?_⟩ <;> simp [formS]
theorem stOf_bits (p : Int) : stOf p < 2 ^ 8 ∧ (stOf p).testBit 0 = false := by
  unfold stOf
  repeat' split
  all_goals decide
theorem inSet_out (s : Nat) (k : Int) (hs : s < 2 ^ 8 ∧ s.testBit 0 = false) (c1 : k ≠ 1) (c2 : k ≠ 2) (c3 : k ≠ 3) (c4 : k ≠ 4) (c5 : k ≠ 5) (c6 : k ≠ 6) (c7 : k ≠ 7) : inSet s k = false := by
  unfold inSet
  by_cases h : 8 ≤ k
  · rw [Nat.testBit_lt_two_pow (Nat.lt_of_lt_of_le hs.1 (Nat.pow_le_pow_right (by decide) (by omega)))]; simp
  · rw [decide_eq_false (show ¬ 1 ≤ k by omega)]; rfl
theorem no_post {lb : Nat} {sv pv : Value} {T : TypeId} {W W' : World} {A B C D E : Bool} {IN FB : Bool} {c k : Nat} {kk : Int} {deep : Int} (h1 : True) : True := trivial
end Go.Proofs.Ytgkfhaahcedbpaa
namespace Go.Proofs.Ytgkfhaahcedbpaa
open Go Go.RowKit Gs
set_option linter.unusedVariables false
set_option linter.unusedSimpArgs false
set_option maxRecDepth 100000
theorem setB_none {sg : List Signal} {tg : Nat} {n low wide : Int} {kw : List Int} (h : n < 0 ∨ (sg.length : Int) ≤ n) : setB sg tg n low wide kw = false := by
  have : sigAt sg n = none := by
    unfold sigAt
    split
    · rfl
    · exact List.getElem?_eq_none (by omega)
  unfold setB
  rw [this]
theorem setB_some {sg : List Signal} {tg : Nat} {k : Nat} {low wide : Int} {kw : List Int} {g : Signal} (h : sg[k]? = some g) : setB sg tg (k : Int) low wide kw = (inSet tg g.kind && setF g low wide kw) := by
  have : sigAt sg (k : Int) = some g := by
    unfold sigAt
    rw [if_neg (by omega)]
    exact h
  unfold setB
  rw [this]
theorem setF_long (g : Signal) (low wide : Int) (kw : List Int) (h : 2 < kw.length) : setF g low wide kw = false := by
  unfold setF
  match kw, h with
  | a :: r, h => simp only; rw [if_pos h, Bool.and_false]
theorem setF_ne {g : Signal} {low wide a : Int} {r : List Int} (ne : ¬ a = wide) : setF g low wide (a :: r) = false := by
  unfold setF
  simp only
  rw [decide_eq_false ne, Bool.false_and]
/-- The same, of the first one's width that fits. -/
def setG (g : Signal) (low a : Int) (L : Nat) : Bool := if g.kind = 5 then decide (L = 2) && (decide (low = 0) && decide (a = g.width)) else if L = 2 then decide (low = 0) && decide (a = 1) else decide (0 ≤ low) && decide (low + a ≤ g.width)
theorem setF_eq (g : Signal) (low a : Int) (r : List Int) {L : Nat} (hL : r.length + 1 = L) (h3 : ¬ 2 < L) (hg : 1 ≤ g.width ∧ g.width ≤ 64) (ha : 1 ≤ a ∧ a ≤ 64) : setF g low a (a :: r) = setG g low a L := by
  unfold setF setG
  simp only [List.length_cons, hL]
  rw [decide_true, Bool.true_and, if_neg h3, wrap_small (by omega) (by omega), show (decide (low ≤ g.width - a)) = (decide (low + a ≤ g.width)) from by rw [Bool.eq_iff_iff]; simp; omega]
theorem L0_nil {es : List Ex} {L : Nat} (h : es.length = L) (h1 : L < 1) : es.map (·.width) = [] := by
  have : es = [] := List.eq_nil_of_length_eq_zero (by omega)
  rw [this]; rfl
theorem L1_cons {es : List Ex} {L : Nat} (h : es.length = L) (h1 : ¬ L < 1) : ∃ a r, es.map (·.width) = a :: r := by
  cases es with
  | nil => simp at h; omega
  | cons x xs => exact ⟨_, _, rfl⟩
theorem inSet_net (k : Int) (h2 : ¬ k = 2) (h3 : ¬ k = 3) : inSet (setOf 1) k = false := by
  unfold inSet
  show (decide (1 ≤ k) && decide (k ≤ 47) && Nat.testBit 12 k.toNat) = false
  by_cases h : 1 ≤ k
  · by_cases h8 : 8 ≤ k
    · rw [Nat.testBit_lt_two_pow (Nat.lt_of_lt_of_le (show 12 < 2 ^ 8 by decide) (Nat.pow_le_pow_right (by decide) (by omega)))]; simp
    · have : k = 1 ∨ k = 4 ∨ k = 5 ∨ k = 6 ∨ k = 7 := by omega
      rcases this with rfl | rfl | rfl | rfl | rfl <;> decide
  · rw [decide_eq_false h]; rfl
theorem inSet_state (k : Int) (h2 : ¬ k = 4) (h3 : ¬ k = 5) : inSet 48 k = false := by
  unfold inSet
  by_cases h : 1 ≤ k
  · by_cases h8 : 8 ≤ k
    · rw [Nat.testBit_lt_two_pow (Nat.lt_of_lt_of_le (show 48 < 2 ^ 8 by decide) (Nat.pow_le_pow_right (by decide) (by omega)))]; simp
    · have : k = 1 ∨ k = 2 ∨ k = 3 ∨ k = 6 ∨ k = 7 := by omega
      rcases this with rfl | rfl | rfl | rfl | rfl <;> decide
  · rw [decide_eq_false h]; rfl
/-- The program's okSN for what an assign has: one value. -/
def StCr (sg : List Signal) (p : Int) (w0 : World) (sv pv : Value) (T : TypeId) (d : Nat) (K : Int → Prop) : Prop := ∀ (x : St) (u : List Value) (deep : Int) (k : Nat) (W : World), K x.kind → RStN d w0 0 x u → 1 ≤ deep → deep ≤ 401 → k ≤ 16384 → Pb w0.heap.size sv pv T W k → Below w0.heap.size w0 W →
  Calls Try.prog 12 #[.pointer (some ⟨w0.heap.size, 0, none⟩), .agg u.toArray, .int .i64 p, .int .i64 deep] W fun e W' => ∃ (r : Bool) (k' : Int), e = .returned (.bool r) ∧ r = (okSN sg (stOf p) (setOf p) d deep x && decide (cntSN d x ≤ k)) ∧ (r = true → k' = (k : Int) - (cntSN d x : Nat)) ∧ Pb w0.heap.size sv pv T W' k' ∧ Fx w0.heap.size W W'
def okS1 (sg : List Signal) : Nat → Int → St → Bool
  | 0, _, _ => false
  | d + 1, deep, x => (decide (deep ≤ 400) && inSet (stOf 1) x.kind) && (x.exs.all (okEN sg d (deep + 1)) && (x.kids.all (okS1 sg d (deep + 1)) && (formS sg (setOf 1) x.kind x.n x.low x.wide (x.exs.map (·.width)) x.kids.length && decide (x.exs.length = 1))))
def StC1 (sg : List Signal) (w0 : World) (sv pv : Value) (T : TypeId) (d : Nat) : Prop := ∀ (x : St) (u : List Value) (deep : Int) (k : Nat) (W : World), RStN d w0 0 x u → 1 ≤ deep → deep ≤ 401 → k ≤ 16384 → Pb w0.heap.size sv pv T W k → Below w0.heap.size w0 W →
  Calls Try.prog 12 #[.pointer (some ⟨w0.heap.size, 0, none⟩), .agg u.toArray, .int .i64 1, .int .i64 deep] W fun e W' => ∃ (r : Bool) (k' : Int), e = .returned (.bool r) ∧ r = (okS1 sg d deep x && decide (cntSN d x ≤ k)) ∧ (r = true → k' = (k : Int) - (cntSN d x : Nat)) ∧ Pb w0.heap.size sv pv T W' k' ∧ Fx w0.heap.size W W'
theorem okS1_eq (sg : List Signal) (d : Nat) (deep : Int) (x : St) : okS1 sg d deep x = (okSN sg (stOf 1) (setOf 1) d deep x && decide (x.exs.length = 1)) := by
  cases d with
  | zero => rfl
  | succ d =>
    show ((decide (deep ≤ 400) && inSet (stOf 1) x.kind) && (x.exs.all (okEN sg d (deep + 1)) && (x.kids.all (okS1 sg d (deep + 1)) && (formS sg (setOf 1) x.kind x.n x.low x.wide (x.exs.map (·.width)) x.kids.length && decide (x.exs.length = 1))))) = (((decide (deep ≤ 400) && inSet (stOf 1) x.kind) && (x.exs.all (okEN sg d (deep + 1)) && (x.kids.all (okSN sg (stOf 1) (setOf 1) d (deep + 1)) && formS sg (setOf 1) x.kind x.n x.low x.wide (x.exs.map (·.width)) x.kids.length))) && decide (x.exs.length = 1))
    by_cases hk : x.kids = []
    · rw [hk]; simp [Bool.and_assoc]
    · cases hi : inSet (stOf 1) x.kind with
      | false => simp
      | true =>
        have h2 : x.kind = 2 := by
          false_or_by_contra
          rename_i hn
          rw [show inSet (stOf 1) x.kind = false from by
            unfold inSet
            show (decide (1 ≤ x.kind) && decide (x.kind ≤ 47) && Nat.testBit 4 x.kind.toNat) = false
            by_cases h : 1 ≤ x.kind
            · by_cases h8 : 8 ≤ x.kind
              · rw [Nat.testBit_lt_two_pow (Nat.lt_of_lt_of_le (show 4 < 2 ^ 8 by decide) (Nat.pow_le_pow_right (by decide) (by omega)))]; simp
              · have : x.kind = 1 ∨ x.kind = 3 ∨ x.kind = 4 ∨ x.kind = 5 ∨ x.kind = 6 ∨ x.kind = 7 := by omega
                rcases this with h | h | h | h | h | h <;> rw [h] <;> decide
            · rw [decide_eq_false h]; rfl] at hi
          cases hi
        have hf : formS sg (setOf 1) x.kind x.n x.low x.wide (x.exs.map (·.width)) x.kids.length = false := by
          have hl : ¬ x.kids.length = 0 := fun h => hk (List.eq_nil_of_length_eq_zero h)
          rw [h2]; simp [formS, hk]
        rw [hf]; simp
theorem sg_cells {V : World} {b o : Nat} {g : Signal} (h : At V b o [.string g.name, .int .i64 g.kind, .int .i64 g.width, .int .i64 g.depth, .bool g.signed, .string g.init]) : V.cell? ⟨b, o, none⟩ = some (.string g.name) ∧ V.cell? ⟨b, o + 1, none⟩ = some (.int .i64 g.kind) ∧ V.cell? ⟨b, o + 2, none⟩ = some (.int .i64 g.width) ∧ V.cell? ⟨b, o + 3, none⟩ = some (.int .i64 g.depth) ∧ V.cell? ⟨b, o + 4, none⟩ = some (.bool g.signed) ∧ V.cell? ⟨b, o + 5, none⟩ = some (.string g.init) :=
  ⟨h.get (j := 0) rfl, h.get (j := 1) rfl, h.get (j := 2) rfl, h.get (j := 3) rfl, h.get (j := 4) rfl, h.get (j := 5) rfl⟩
def FSg12 (pb sb so sl sc eb k : Nat) (g : Signal) (B0 : Nat) : Nat → World → Value → Prop
  | 0, V, v => v = .pointer (some ⟨pb, 0, none⟩)
  | 1, V, v => v = .pointer (some ⟨pb, 0, none⟩)
  | 2, V, v => v = .pointer (some ⟨pb, 0, none⟩)
  | 3, V, v => v = .pointer (some ⟨pb, 0, none⟩)
  | 4, V, v => v = .slice (some ⟨sb, so, none⟩) sl sc
  | 5, V, v => v = .pointer (some ⟨eb, 1, none⟩)
  | 6, V, v => v = .int .i64 (k : Int)
  | 7, V, v => v = .pointer (some ⟨sb, so + k * 6, none⟩)
  | 8, V, v => v = .agg #[.string g.name, .int .i64 g.kind, .int .i64 g.width, .int .i64 g.depth, .bool g.signed, .string g.init]
  | 9, V, v => ∃ M, v = .pointer (some ⟨M, 0, none⟩) ∧ M < V.heap.size ∧ B0 ≤ M ∧ ∀ i, i < 6 → (∃ y, V.cell? ⟨M, i, none⟩ = some y) ∧ V.frozen? ⟨M, i, none⟩ = false
  | _, _, _ => True
theorem FSg12.lasts (pb sb so sl sc eb k : Nat) (g : Signal) (B0 : Nat) : Lasts (FSg12 pb sb so sl sc eb k g B0) := by
  intro k w w' v hbl h
  match k, h with
  | 0, h => exact h
  | 1, h => exact h
  | 2, h => exact h
  | 3, h => exact h
  | 4, h => exact h
  | 5, h => exact h
  | 6, h => exact h
  | 7, h => exact h
  | 8, h => exact h
  | 9, ⟨M, h1, h2, h3, h4⟩ => exact ⟨M, h1, Nat.lt_of_lt_of_le h2 hbl.size, h3, fun i hi => by
      obtain ⟨⟨y, hy⟩, hf⟩ := h4 i hi
      exact ⟨⟨y, cell_later hbl hy⟩, frozen_later hbl hy hf⟩⟩
  | _ + 10, _ => trivial
def FSg12b (g : Signal) (B0 : Nat) : Nat → World → Value → Prop
  | 9, V, v => ∃ M, v = .pointer (some ⟨M, 0, none⟩) ∧ B0 ≤ M ∧ At V M 0 [.string g.name, .int .i64 g.kind, .int .i64 g.width, .int .i64 g.depth, .bool g.signed, .string g.init]
  | _, _, _ => True
end Go.Proofs.Ytgkfhaahcedbpaa
namespace Go.Proofs.Ytgkfhaahcedbpaa
open Go Go.RowKit Gs
set_option linter.unusedVariables false
set_option linter.unusedSimpArgs false
set_option maxRecDepth 100000

/-- What st answers of a process's body. -/
def stP (sg : List Signal) (k : Int) (d : Nat) (x : St) : Bool := okSN sg (stOf k) (setOf k) d 1 x && (!decide (k = 1) || decide (x.exs.length = 1))
def StK (sg : List Signal) (w0 : World) (sv pv : Value) (T : TypeId) (d : Nat) : Prop := ∀ (p : Int), 1 ≤ p → p ≤ 5 → ∀ (x : St) (u : List Value) (k : Nat) (W : World), RStN d w0 0 x u → k ≤ 16384 → Pb w0.heap.size sv pv T W k → Below w0.heap.size w0 W →
  Calls Try.prog 12 #[.pointer (some ⟨w0.heap.size, 0, none⟩), .agg u.toArray, .int .i64 p, .int .i64 1] W fun e W' => ∃ (r : Bool) (k' : Int), e = .returned (.bool r) ∧ r = (stP sg p d x && decide (cntSN d x ≤ k)) ∧ (r = true → k' = (k : Int) - (cntSN d x : Nat)) ∧ Pb w0.heap.size sv pv T W' k' ∧ Fx w0.heap.size W W'
theorem inSet_at {s : Nat} {v k : Int} (hs : s < 2 ^ 8) (h : inSet s k = true) (hv : ∀ i : Nat, i < 8 → s.testBit i = true → (i : Int) = v) : k = v := by
  unfold inSet at h
  simp only [Bool.and_eq_true, decide_eq_true_eq] at h
  obtain ⟨⟨h1, h2⟩, h3⟩ := h
  by_cases h8 : 8 ≤ k
  · rw [Nat.testBit_lt_two_pow (Nat.lt_of_lt_of_le hs (Nat.pow_le_pow_right (by decide) (by omega)))] at h3
    cases h3
  · have := hv k.toNat (by omega) h3
    omega
theorem okSN_kind {sg : List Signal} {kd tg d : Nat} {deep : Int} {x : St} (h : okSN sg kd tg d deep x = true) : inSet kd x.kind = true := by
  cases d with
  | zero => cases h
  | succ d =>
    have e : okSN sg kd tg (d + 1) deep x = ((decide (deep ≤ 400) && inSet kd x.kind) && (x.exs.all (okEN sg d (deep + 1)) && (x.kids.all (okSN sg kd tg d (deep + 1)) && formS sg tg x.kind x.n x.low x.wide (x.exs.map (·.width)) x.kids.length))) := rfl
    rw [e] at h
    simp only [Bool.and_eq_true] at h
    exact h.1.2
theorem body1 {sg : List Signal} {d : Nat} {deep : Int} {x : St} (h : okSN sg (stOf 1) (setOf 1) d deep x = true) : x.kind = 2 :=
  inSet_at (s := 4) (by decide) (okSN_kind h) (by decide)
theorem body5 {sg : List Signal} {d : Nat} {deep : Int} {x : St} (h : okSN sg (stOf 5) (setOf 5) d deep x = true) : x.kind = 7 :=
  inSet_at (s := 128) (by decide) (okSN_kind h) (by decide)
theorem okSN_out {sg : List Signal} {d : Nat} {deep k : Int} {tg : Nat} {x : St} (h : k < 1 ∨ 5 < k) : okSN sg (stOf k) tg d deep x = false := by
  rw [← Bool.not_eq_true]
  intro hc
  have h0 := okSN_kind hc
  rw [show stOf k = 0 from by unfold stOf; rw [if_neg (by omega), if_neg (by omega), if_neg (by omega), if_neg (by omega), if_neg (by omega)]] at h0
  unfold inSet at h0
  simp at h0
theorem nodup_no {sg : List Signal} {j k : Nat} {g g2 : Signal} (h : (sg.map (fun x : Signal => x.name)).Nodup) (hg : sg[j]? = some g) (hg2 : sg[k]? = some g2) (hk : k < j) : ¬ g2.name = g.name := by
  intro he
  have h1 : (sg.map (fun x : Signal => x.name))[j]? = some g.name := by rw [List.getElem?_map, hg]; rfl
  have h2 : (sg.map (fun x : Signal => x.name))[k]? = some g2.name := by rw [List.getElem?_map, hg2]; rfl
  have hj := (List.getElem?_eq_some_iff.1 h1).1
  have := (List.getElem?_inj (Nat.lt_trans hk hj) h).1 (h2.trans ((congrArg some he).trans h1.symm))
  omega
theorem sigAt_none {sg : List Signal} {n : Int} (h : n < 0 ∨ (sg.length : Int) ≤ n) : sigAt sg n = none := by
  unfold sigAt
  split
  · rfl
  · exact List.getElem?_eq_none (by omega)
theorem sigAt_some {sg : List Signal} {k : Nat} {g : Signal} (h : sg[k]? = some g) : sigAt sg (k : Int) = some g := by
  unfold sigAt
  rw [if_neg (by omega)]
  exact h
theorem size_empty {s : ByteArray} (h : s.toList.isEmpty = true) : (decide (1 ≤ s.size) && decide (s.size ≤ 1000)) = false := by
  rw [ByteArray.toList_eq] at h
  have h2 : s.data.toList = [] := List.isEmpty_iff.1 h
  have h3 : s.size = 0 := by
    have := congrArg List.length h2
    simpa using this
  rw [h3]; rfl
theorem chk_take {ps : List Proc} {j : Nat} {p : Proc} (hp : ps[j]? = some p) : checksOf (ps.take (j + 1)) = if p.kind = 5 then checksOf (ps.take j) ++ [p.name] else checksOf (ps.take j) := by
  unfold checksOf
  rw [List.take_add_one, hp, List.filter_append, List.map_append]
  by_cases h5 : p.kind = 5 <;> simp [h5]
theorem chk_mem {ps : List Proc} {j k : Nat} {p q : Proc} (hp : ps[j]? = some p) (hq : ps[k]? = some q) (hk : k < j) (h5 : p.kind = 5) (h6 : q.kind = 5) (hn : q.name = p.name) : ¬ (checksOf ps).Nodup := by
  intro h
  have h2 : checksOf ps = checksOf (ps.take (j + 1)) ++ checksOf (ps.drop (j + 1)) := by
    unfold checksOf
    rw [← List.map_append, ← List.filter_append, List.take_append_drop]
  rw [h2, chk_take hp, if_pos h5] at h
  have h3 := (List.nodup_append.1 (List.nodup_append.1 h).1).2.2
  have hm : q.name ∈ checksOf (ps.take j) := by
    unfold checksOf
    refine List.mem_map.2 ⟨q, List.mem_filter.2 ⟨?_, by simp [h6]⟩, rfl⟩
    refine List.mem_of_getElem? (i := k) ?_
    rw [List.getElem?_take, if_pos hk]; exact hq
  exact h3 _ hm _ (List.mem_singleton.2 rfl) hn
theorem chk_step {ps : List Proc} {k : Nat} {q : Proc} {y : ByteArray} (h : y ∉ checksOf (ps.take k)) (hq : ps[k]? = some q) (hn : ¬ (q.kind = 5 ∧ q.name = y)) : y ∉ checksOf (ps.take (k + 1)) := by
  rw [chk_take hq]
  split
  · rename_i h5
    intro hm
    rcases List.mem_append.1 hm with hm | hm
    · exact h hm
    · exact hn ⟨h5, (List.mem_singleton.1 hm).symm⟩
  · exact h
end Go.Proofs.Ytgkfhaahcedbpaa
