/- Tables of a graph's variables over some leaves: the mathematics. -/
import Derived.Test.YtpkgcccbhfdaiaaDoorL0
import Derived.Laws.BitsAllLaws
import Derived.Test.YtpkgcccbhfdaiaaDoorRWa
import Derived.Test.YtpkgcccbhfdaiaaDoorLW
import Derived.BigQuiet
namespace Go.Proofs.YtpkgcccbhfdaiaaDoor
open Go Go.RowKit Gs
set_option linter.unusedVariables false
set_option maxRecDepth 100000
theorem ofInt_i64 (a : Nat) (ha : a < 18446744073709551616) : (BitVec.ofInt 64 (a : Int)).toNat = a := by
  rw [BitVec.ofInt_natCast, BitVec.toNat_ofNat]; exact Nat.mod_eq_of_lt (by omega)
theorem i64_and_nat (a b : Nat) (ha : a < 65536) (hb : b < 65536) : bits .and .i64 (a : Int) (b : Int) = ((a &&& b : Nat) : Int) := by
  have hx : a &&& b < 2 ^ 16 := Nat.and_lt_two_pow _ (by omega)
  show IntKind.i64.wrap ((BitVec.ofInt 64 (a : Int) &&& BitVec.ofInt 64 (b : Int)).toNat : Int) = _
  rw [BitVec.toNat_and, ofInt_i64 a (by omega), ofInt_i64 b (by omega), IntKind.wrap_i64]
  omega
theorem i64_xor_nat (a b : Nat) (ha : a < 65536) (hb : b < 65536) : bits .xor .i64 (a : Int) (b : Int) = ((a ^^^ b : Nat) : Int) := by
  have hx : a ^^^ b < 2 ^ 16 := Nat.xor_lt_two_pow (by omega) (by omega)
  show IntKind.i64.wrap ((BitVec.ofInt 64 (a : Int) ^^^ BitVec.ofInt 64 (b : Int)).toNat : Int) = _
  rw [BitVec.toNat_xor, ofInt_i64 a (by omega), ofInt_i64 b (by omega), IntKind.wrap_i64]
  omega
theorem i64_andNot_nat (a b : Nat) (ha : a < 65536) (hb : b < 65536) : bits .andNot .i64 (a : Int) (b : Int) = ((a &&& (18446744073709551615 - b) : Nat) : Int) := by
  have hx : a &&& (18446744073709551615 - b) < 2 ^ 16 := Nat.and_comm a _ ▸ Nat.and_lt_two_pow _ (by omega)
  show IntKind.i64.wrap ((BitVec.ofInt 64 (a : Int) &&& ~~~BitVec.ofInt 64 (b : Int)).toNat : Int) = _
  rw [BitVec.toNat_and, BitVec.toNat_not, ofInt_i64 a (by omega), ofInt_i64 b (by omega), IntKind.wrap_i64]
  have e : 2 ^ 64 - 1 - b = 18446744073709551615 - b := by omega
  rw [e]
  omega
/-- The table of true. -/
def tmask (k : Nat) : Nat := 2 ^ 2 ^ k - 1
theorem tmask_lt {k : Nat} (h : k ≤ 4) : tmask k < 65536 := by
  match k, h with
  | 0, _ => decide
  | 1, _ => decide
  | 2, _ => decide
  | 3, _ => decide
  | 4, _ => decide
theorem neg_xor {n t : Nat} (h : t < 2 ^ n) : t ^^^ (2 ^ n - 1) = 2 ^ n - 1 - t := by
  apply Nat.eq_of_testBit_eq
  intro i
  rw [show 2 ^ n - 1 - t = 2 ^ n - (t + 1) by omega, Nat.testBit_two_pow_sub_succ h, Nat.testBit_xor, Nat.testBit_two_pow_sub_one]
  by_cases hi : i < n
  · simp [hi]
  · have : t.testBit i = false := Nat.testBit_lt_two_pow (Nat.lt_of_lt_of_le h (Nat.pow_le_pow_right (by omega) (by omega)))
    simp [hi, this]
theorem neg_andNot {n t : Nat} (hn : n ≤ 64) (h : t < 2 ^ n) : (2 ^ n - 1) &&& (18446744073709551615 - t) = 2 ^ n - 1 - t := by
  have h64 : t < 2 ^ 64 := Nat.lt_of_lt_of_le h (Nat.pow_le_pow_right (by omega) hn)
  apply Nat.eq_of_testBit_eq
  intro i
  rw [show 2 ^ n - 1 - t = 2 ^ n - (t + 1) by omega, Nat.testBit_two_pow_sub_succ h, Nat.testBit_and, Nat.testBit_two_pow_sub_one, show 18446744073709551615 - t = 2 ^ 64 - (t + 1) by omega, Nat.testBit_two_pow_sub_succ h64]
  by_cases hi : i < n
  · simp [hi, show i < 64 by omega]
  · simp [hi]
def negT (k t : Nat) : Nat := tmask k - t
theorem neg_i {k t : Nat} (hk : k ≤ 4) (ht : t ≤ tmask k) : bits .andNot .i64 ((tmask k : Nat) : Int) (t : Int) = ((negT k t : Nat) : Int) := by
  have := tmask_lt hk
  have hp : 0 < 2 ^ 2 ^ k := Nat.two_pow_pos _
  have hk2 : 2 ^ k ≤ 64 := Nat.le_trans (Nat.pow_le_pow_right (by omega) hk) (by decide)
  rw [i64_andNot_nat _ _ (by omega) (by omega)]
  unfold negT tmask
  rw [neg_andNot hk2 (by unfold tmask at ht; omega)]
theorem neg_s {k t : Nat} (hk : k ≤ 4) (ht : t ≤ tmask k) : bits .xor .i64 (t : Int) ((tmask k : Nat) : Int) = ((negT k t : Nat) : Int) := by
  have := tmask_lt hk
  have hp : 0 < 2 ^ 2 ^ k := Nat.two_pow_pos _
  rw [i64_xor_nat _ _ (by omega) (by omega)]
  unfold negT tmask
  rw [neg_xor (by unfold tmask at ht; omega)]
theorem and_le {a b m : Nat} (h : a ≤ m) : a &&& b ≤ m := Nat.le_trans Nat.and_le_left h
def leafTab : Nat → Nat
  | 0 => 43690
  | 1 => 52428
  | 2 => 61680
  | _ => 65280
/-- The table of a leaf among so many. -/
def lfT (j k : Nat) : Nat := leafTab j &&& tmask k
theorem lfT_le (j k : Nat) : lfT j k ≤ tmask k := Nat.and_le_right
theorem leafTab_lt (j : Nat) : leafTab j < 65536 := by
  unfold leafTab; split <;> decide
/-- What a variable has by the leaves, if it is one. -/
def leafOf (ls : List Int) (v : Nat) : Option Nat := (ls.findIdx? (fun l => l == (v : Int))).map (fun j => lfT j ls.length)
/-- The table of a literal, out of those of variables. -/
def litT (k : Nat) (R : List (Option Nat)) (l : Int) : Option Nat := (R.getD (l / 2).toNat none).map (fun t => if l % 2 = 1 then negT k t else t)
def andT (k : Nat) (R : List (Option Nat)) (x : AndG) : Option Nat := match litT k R x.a, litT k R x.b with
  | some p, some q => some (p &&& q)
  | _, _ => none
def firstT (ls : List Int) (n : Nat) : List (Option Nat) := (List.range n).map (fun v => match leafOf ls v with | some t => some t | none => if v = 0 then some 0 else none)
def tabsT (ls : List Int) : List (Option Nat) → List AndG → List (Option Nat)
  | R, [] => R
  | R, x :: r => tabsT ls (R ++ [match leafOf ls R.length with | some t => some t | none => andT ls.length R x]) r
theorem tabsT_len (ls : List Int) : ∀ (xs : List AndG) (R : List (Option Nat)), (tabsT ls R xs).length = R.length + xs.length
  | [], R => rfl
  | a :: r, R => by rw [tabsT, tabsT_len ls r]; simp; omega
theorem tabsT_pre (ls : List Int) : ∀ (xs : List AndG) (R : List (Option Nat)), ∃ r, tabsT ls R xs = R ++ r
  | [], R => ⟨[], by rw [tabsT, List.append_nil]⟩
  | a :: r, R => by
    rw [tabsT]
    obtain ⟨t, ht⟩ := tabsT_pre ls r (R ++ [match leafOf ls R.length with | some t => some t | none => andT ls.length R a])
    exact ⟨_, by rw [ht, List.append_assoc]⟩
theorem litT_pre {k : Nat} {R r : List (Option Nat)} {l : Int} (h0 : 0 ≤ l) (h : l < 2 * (R.length : Int)) : litT k (R ++ r) l = litT k R l := by
  unfold litT
  rw [List.getD_eq_getElem?_getD, List.getD_eq_getElem?_getD, List.getElem?_append_left (by omega)]
/-- What an and's variable has, out of the whole list. -/
theorem tabsT_at (ls : List Int) : ∀ (xs : List AndG) (R : List (Option Nat)) (i : Nat) (x : AndG), AO R.length xs → xs[i]? = some x → (tabsT ls R xs)[R.length + i]? = some (match leafOf ls (R.length + i) with | some t => some t | none => andT ls.length (tabsT ls R xs) x)
  | [], R, i, x, _, h => by simp at h
  | a :: r, R, 0, x, hao, h => by
    simp at h
    subst h
    obtain ⟨h1, h2, h3, h4⟩ := hao 0 a rfl
    rw [tabsT]
    obtain ⟨t, ht⟩ := tabsT_pre ls r (R ++ [match leafOf ls R.length with | some t => some t | none => andT ls.length R a])
    rw [ht, Nat.add_zero, List.append_assoc, List.getElem?_append_right (Nat.le_refl _), Nat.sub_self]
    have ea : andT ls.length (R ++ ([match leafOf ls R.length with | some t => some t | none => andT ls.length R a] ++ t)) a = andT ls.length R a := by
      unfold andT
      rw [litT_pre h1 (by simpa using h2), litT_pre h3 (by simpa using h4)]
    rw [ea]; rfl
  | a :: r, R, i + 1, x, hao, h => by
    rw [tabsT]
    have := tabsT_at ls r (R ++ [match leafOf ls R.length with | some t => some t | none => andT ls.length R a]) i x (by
      intro j y hy
      have := hao (j + 1) y (by simpa using hy)
      rw [List.length_append]
      simp only [List.length_cons, List.length_nil]
      rw [show R.length + (0 + 1) + j = R.length + (j + 1) by omega]
      exact this) (by simpa using h)
    rw [List.length_append] at this
    simp only [List.length_cons, List.length_nil] at this
    rw [show R.length + (0 + 1) + i = R.length + (i + 1) by omega] at this
    exact this
/-- The tables of all variables. -/
def allT (x : Aig) (ls : List Int) : List (Option Nat) := tabsT ls (firstT ls (firstN x)) x.ands
theorem firstT_len (ls : List Int) (n : Nat) : (firstT ls n).length = n := by simp [firstT]
theorem allT_len (x : Aig) (ls : List Int) : (allT x ls).length = firstN x + x.ands.length := by
  unfold allT; rw [tabsT_len, firstT_len]
theorem allT_leaf {x : Aig} {ls : List Int} {v : Nat} {t : Nat} (hao : AO (firstN x) x.ands) (hv : v < firstN x + x.ands.length) (hl : leafOf ls v = some t) : (allT x ls)[v]? = some (some t) := by
  unfold allT
  by_cases h : v < firstN x
  · obtain ⟨r, hr⟩ := tabsT_pre ls x.ands (firstT ls (firstN x))
    rw [hr, List.getElem?_append_left (by rw [firstT_len]; exact h)]
    unfold firstT
    rw [List.getElem?_map, List.getElem?_range h]
    simp [hl]
  · have hx : x.ands[v - firstN x]? = some x.ands[v - firstN x] := List.getElem?_eq_getElem (by omega)
    have := tabsT_at ls x.ands (firstT ls (firstN x)) (v - firstN x) _ (by rw [firstT_len]; exact hao) hx
    rw [firstT_len, show firstN x + (v - firstN x) = v by omega, hl] at this
    exact this
theorem allT_first {x : Aig} {ls : List Int} {v : Nat} (hv : v < firstN x) (hl : leafOf ls v = none) : (allT x ls)[v]? = some (if v = 0 then some 0 else none) := by
  unfold allT
  obtain ⟨r, hr⟩ := tabsT_pre ls x.ands (firstT ls (firstN x))
  rw [hr, List.getElem?_append_left (by rw [firstT_len]; exact hv)]
  unfold firstT
  rw [List.getElem?_map, List.getElem?_range hv]
  simp [hl]
theorem allT_and {x : Aig} {ls : List Int} {i : Nat} {a : AndG} (hao : AO (firstN x) x.ands) (hi : x.ands[i]? = some a) (hl : leafOf ls (firstN x + i) = none) : (allT x ls)[firstN x + i]? = some (andT ls.length (allT x ls) a) := by
  have := tabsT_at ls x.ands (firstT ls (firstN x)) i a (by rw [firstT_len]; exact hao) hi
  rw [firstT_len, hl] at this
  exact this
theorem leafOf_le {ls : List Int} {v t : Nat} (h : leafOf ls v = some t) : t ≤ tmask ls.length := by
  unfold leafOf at h
  rw [Option.map_eq_some_iff] at h
  obtain ⟨j, _, rfl⟩ := h
  exact lfT_le _ _
/-- All tables lie within the mask. -/
theorem tabsT_le (ls : List Int) : ∀ (xs : List AndG) (R : List (Option Nat)), (∀ (i t : Nat), R[i]? = some (some t) → t ≤ tmask ls.length) → ∀ (i t : Nat), (tabsT ls R xs)[i]? = some (some t) → t ≤ tmask ls.length
  | [], R, h, i, t, ht => h i t ht
  | a :: r, R, h, i, t, ht => by
    rw [tabsT] at ht
    refine tabsT_le ls r _ ?_ i t ht
    intro j s hs
    by_cases hj : j < R.length
    · rw [List.getElem?_append_left hj] at hs
      exact h j s hs
    · rw [List.getElem?_append_right (by omega)] at hs
      cases e : j - R.length with
      | succ q => rw [e] at hs; simp at hs
      | zero =>
        rw [e] at hs
        simp only [List.getElem?_cons_zero, Option.some.injEq] at hs
        cases hl : leafOf ls R.length with
        | some u => rw [hl] at hs; injection hs with hs; subst hs; exact leafOf_le hl
        | none =>
          rw [hl] at hs
          unfold andT at hs
          cases e1 : litT ls.length R a.a with
          | none => rw [e1] at hs; cases hs
          | some p =>
            cases e2 : litT ls.length R a.b with
            | none => rw [e1, e2] at hs; cases hs
            | some q =>
              rw [e1, e2] at hs
              injection hs with hs
              subst hs
              refine and_le ?_
              unfold litT at e1
              rw [Option.map_eq_some_iff] at e1
              obtain ⟨u, hu, rfl⟩ := e1
              have hu2 : R[(a.a / 2).toNat]? = some (some u) := by
                rw [List.getD_eq_getElem?_getD] at hu
                cases e3 : R[(a.a / 2).toNat]? with
                | none => rw [e3] at hu; cases hu
                | some y => rw [e3] at hu; exact congrArg some hu
              have := h _ _ hu2
              split
              · unfold negT; omega
              · exact this
theorem allT_le {x : Aig} {ls : List Int} {i t : Nat} (h : (allT x ls)[i]? = some (some t)) : t ≤ tmask ls.length := by
  refine tabsT_le ls x.ands (firstT ls (firstN x)) ?_ i t h
  intro j s hs
  unfold firstT at hs
  rw [List.getElem?_map] at hs
  cases e : (List.range (firstN x))[j]? with
  | none => rw [e] at hs; cases hs
  | some y =>
    rw [e] at hs
    simp only [Option.map_some, Option.some.injEq] at hs
    cases hl : leafOf ls y with
    | some u => rw [hl] at hs; injection hs with hs; subst hs; exact leafOf_le hl
    | none =>
      rw [hl] at hs
      by_cases h0 : y = 0
      · rw [if_pos h0] at hs; injection hs with hs; omega
      · rw [if_neg h0] at hs; cases hs
end Go.Proofs.YtpkgcccbhfdaiaaDoor
namespace Go.Proofs.YtpkgcccbhfdaiaaDoor
open Go Go.RowKit Gs
set_option linter.unusedVariables false
set_option linter.unusedSimpArgs false
set_option maxRecDepth 100000
theorem sizeSet (W : World) (a : Addr) (v : Value) : (W.setCell a v).heap.size = W.heap.size := by simp
theorem otherCell (W : World) (g i : Nat) (v : Value) {b o : Nat} {y : Value} (hc : W.cell? ⟨b, o, none⟩ = some y) (h : b ≠ g ∨ o ≠ i) : (W.setCell ⟨g, i, none⟩ v).cell? ⟨b, o, none⟩ = some y := by
  rw [show W.setCell ⟨g, i, none⟩ v = setK W g i [v] from rfl, setK_other [v] W g i b o (by rcases h with h | h; exact .inl h; simp; omega)]
  exact hc
theorem sameCell (W : World) (g i : Nat) (v : Value) {y : Value} (hc : W.cell? ⟨g, i, none⟩ = some y) : (W.setCell ⟨g, i, none⟩ v).cell? ⟨g, i, none⟩ = some v := by
  have := setK_at [v] W g i (fun q hq => ⟨y, by
    have : q = 0 := by simpa using hq
    subst this
    exact hc⟩)
  exact this.get0
theorem frozSet (W : World) (g i : Nat) (v : Value) (a : Addr) : (W.setCell ⟨g, i, none⟩ v).frozen? a = W.frozen? a := setK_frozen [v] W g i a
/-- All blocks but some are as they were. -/
structure FS (S : Nat → Prop) (W W' : World) : Prop where
  os : W'.os = W.os
  tape : W'.tape = W.tape
  output : W'.output = W.output
  size : W.heap.size ≤ W'.heap.size
  block : ∀ k, k < W.heap.size → ¬ S k → W'.heap[k]? = W.heap[k]?
theorem FS.refl (S : Nat → Prop) (W : World) : FS S W W := ⟨rfl, rfl, rfl, Nat.le_refl _, fun _ _ _ => rfl⟩
theorem FS.trans {S : Nat → Prop} {a b c : World} (h : FS S a b) (k : FS S b c) : FS S a c :=
  ⟨k.os.trans h.os, k.tape.trans h.tape, k.output.trans h.output, Nat.le_trans h.size k.size, fun i hi hn => (k.block i (Nat.lt_of_lt_of_le hi h.size) hn).trans (h.block i hi hn)⟩
theorem FS.of {S : Nat → Prop} {W W' : World} (h : Below W.heap.size W W') : FS S W W' := ⟨h.os, h.tape, h.output, h.size, fun k hk _ => h.block k hk⟩
theorem FS.below {S : Nat → Prop} {B : Nat} {w W W' : World} (h : Below B w W) (k : FS S W W') (hS : ∀ i, S i → B ≤ i) (hB : B ≤ W.heap.size) : Below B w W' :=
  ⟨k.os.trans h.os, k.tape.trans h.tape, k.output.trans h.output, Nat.le_trans h.size k.size, fun i hi => (k.block i (by omega) (fun hs => by have := hS i hs; omega)).trans (h.block i hi)⟩
theorem FS.set {S : Nat → Prop} {g : Nat} (hg : S g) (i : Nat) (W : World) (v : Value) : FS S W (W.setCell ⟨g, i, none⟩ v) := by
  have h : Below g W (W.setCell ⟨g, i, none⟩ v) := (Below.refl g W).setCell (Nat.le_refl g) v
  exact ⟨h.os, h.tape, h.output, h.size, fun k hk hn => Below.heap_setCell W ⟨g, i, none⟩ v k (fun e => hn (by rw [e]; exact hg))⟩
theorem FS.cell {S : Nat → Prop} {W W' : World} (h : FS S W W') {b o : Nat} {y : Value} (hb : ¬ S b) (hc : W.cell? ⟨b, o, none⟩ = some y) : W'.cell? ⟨b, o, none⟩ = some y := by
  have e := h.block b (World.block_lt_of_cell? _ _ hc) hb
  unfold World.cell? at *
  simp only [e] at *
  exact hc
/-- The state of a tabling: its block, its two rows, and what is known of them. -/
structure Tb (b gm gt n : Nat) (p0 p1 p2 p3 p4 p5 : Value) (first mask rnd : Nat) (R : List (Option Nat)) (L : Nat → Prop) (W : World) : Prop where
  at_ : At W b 0 [p0, p1, p2, p3, p4, p5, .int .i64 (first : Int), .int .i64 (mask : Int), .int .i64 (rnd : Int), .slice (some ⟨gm, 0, none⟩) n n, .slice (some ⟨gt, 0, none⟩) n n]
  fz : ∀ i, i < 11 → W.frozen? ⟨b, i, none⟩ = false
  met : ∀ i, i < n → ∃ m t : Int, W.cell? ⟨gm, i, none⟩ = some (.int .i64 m) ∧ W.frozen? ⟨gm, i, none⟩ = false ∧ W.cell? ⟨gt, i, none⟩ = some (.int .i64 t) ∧ W.frozen? ⟨gt, i, none⟩ = false ∧ (m = 1 → ∃ t' : Nat, R[i]? = some (some t') ∧ t = t') ∧ (L i → m = 1)
theorem Tb.later {b gm gt n : Nat} {p0 p1 p2 p3 p4 p5 : Value} {first mask rnd : Nat} {R : List (Option Nat)} {L : Nat → Prop} {W V : World} (h : Tb b gm gt n p0 p1 p2 p3 p4 p5 first mask rnd R L W) (hb : Below W.heap.size W V) : Tb b gm gt n p0 p1 p2 p3 p4 p5 first mask rnd R L V := by
  refine ⟨fun j y hj => cell_later hb (h.at_ j y hj), fun i hi => ?_, fun i hi => ?_⟩
  · have hc : ∃ y, W.cell? ⟨b, i, none⟩ = some y := by
      have hj : ([p0, p1, p2, p3, p4, p5, .int .i64 (first : Int), .int .i64 (mask : Int), .int .i64 (rnd : Int), .slice (some ⟨gm, 0, none⟩) n n, .slice (some ⟨gt, 0, none⟩) n n] : List Value)[i]? = some _ := List.getElem?_eq_getElem (by simpa using hi)
      exact ⟨_, by simpa using h.at_ i _ hj⟩
    obtain ⟨y, hy⟩ := hc
    exact frozen_later hb hy (h.fz i hi)
  · obtain ⟨m, t, h1, h2, h3, h4, h5, h6⟩ := h.met i hi
    exact ⟨m, t, cell_later hb h1, frozen_later hb h1 h2, cell_later hb h3, frozen_later hb h3 h4, h5, h6⟩
theorem Tb.get {b gm gt n : Nat} {p0 p1 p2 p3 p4 p5 : Value} {first mask rnd : Nat} {R : List (Option Nat)} {L : Nat → Prop} {W : World} (h : Tb b gm gt n p0 p1 p2 p3 p4 p5 first mask rnd R L W) : W.cell? ⟨b, 3, none⟩ = some p3 ∧ W.cell? ⟨b, 6, none⟩ = some (.int .i64 (first : Int)) ∧ W.cell? ⟨b, 7, none⟩ = some (.int .i64 (mask : Int)) ∧ W.cell? ⟨b, 8, none⟩ = some (.int .i64 (rnd : Int)) ∧ W.cell? ⟨b, 9, none⟩ = some (.slice (some ⟨gm, 0, none⟩) n n) ∧ W.cell? ⟨b, 10, none⟩ = some (.slice (some ⟨gt, 0, none⟩) n n) :=
  ⟨by simpa using h.at_ 3 _ rfl, by simpa using h.at_ 6 _ rfl, by simpa using h.at_ 7 _ rfl, by simpa using h.at_ 8 _ rfl, by simpa using h.at_ 9 _ rfl, by simpa using h.at_ 10 _ rfl⟩
/-- One variable's cells are written. -/
theorem Tb.put {b gm gt n vr t : Nat} {p0 p1 p2 p3 p4 p5 : Value} {first mask : Nat} {R : List (Option Nat)} {L : Nat → Prop} {W : World} (hd : b ≠ gm ∧ b ≠ gt ∧ gm ≠ gt) (h : Tb b gm gt n p0 p1 p2 p3 p4 p5 first mask 1 R L W) (hv : vr < n) (hR : R[vr]? = some (some t)) {L' : Nat → Prop} (hL : ∀ i, L' i → L i ∨ i = vr) :
    Tb b gm gt n p0 p1 p2 p3 p4 p5 first mask 1 R L' ((W.setCell ⟨gm, vr, none⟩ (.int .i64 1)).setCell ⟨gt, vr, none⟩ (.int .i64 (t : Int))) := by
  obtain ⟨d1, d2, d3⟩ := hd
  obtain ⟨m0, t0, k1, k2, k3, k4, _, _⟩ := h.met vr hv
  refine ⟨fun j y hj => otherCell _ _ _ _ (otherCell _ _ _ _ (h.at_ j y hj) (.inl d1)) (.inl d2), fun i hi => by rw [frozSet, frozSet]; exact h.fz i hi, fun i hi => ?_⟩
  by_cases e : i = vr
  · subst e
    exact ⟨1, t, otherCell _ _ _ _ (sameCell _ _ _ _ k1) (.inl d3), by rw [frozSet, frozSet]; exact k2, sameCell _ _ _ _ (otherCell _ _ _ _ k3 (.inl (Ne.symm d3))), by rw [frozSet, frozSet]; exact k4, fun _ => ⟨t, hR, rfl⟩, fun _ => rfl⟩
  · obtain ⟨m, u, h1, h2, h3, h4, h5, h6⟩ := h.met i hi
    exact ⟨m, u, otherCell _ _ _ _ (otherCell _ _ _ _ h1 (.inr e)) (.inl d3), by rw [frozSet, frozSet]; exact h2, otherCell _ _ _ _ (otherCell _ _ _ _ h3 (.inl (Ne.symm d3))) (.inr e), by rw [frozSet, frozSet]; exact h4, h5, fun hl => (hL i hl).elim h6 (fun e2 => absurd e2 e)⟩
set_option maxHeartbeats 1600000 in
theorem iMask (k : Nat) (hk : k ≤ 4) (w : World) : Calls Tryd.prog 52 #[.int .i64 (k : Int)] w fun e w' => e = .returned (.int .i64 ((tmask k : Nat) : Int)) ∧ w' = w := by
  match k, hk with
  | 0, _ => (go_enter Tryd.func52, Tryd.ntmps52; go_wp2; exact bodyPost_ret (v := .int .i64 1) (by simp [results, Tryd.results52, go_sem]; try decide) rfl ⟨rfl, rfl⟩)
  | 1, _ => (go_enter Tryd.func52, Tryd.ntmps52; go_wp2; exact bodyPost_ret (v := .int .i64 3) (by simp [results, Tryd.results52, go_sem]; try decide) rfl ⟨rfl, rfl⟩)
  | 2, _ => (go_enter Tryd.func52, Tryd.ntmps52; go_wp2; exact bodyPost_ret (v := .int .i64 15) (by simp [results, Tryd.results52, go_sem]; try decide) rfl ⟨rfl, rfl⟩)
  | 3, _ => (go_enter Tryd.func52, Tryd.ntmps52; go_wp2; exact bodyPost_ret (v := .int .i64 255) (by simp [results, Tryd.results52, go_sem]; try decide) rfl ⟨rfl, rfl⟩)
  | 4, _ => (go_enter Tryd.func52, Tryd.ntmps52; go_wp2; exact bodyPost_ret (v := .int .i64 65535) (by simp [results, Tryd.results52, go_sem]; try decide) rfl ⟨rfl, rfl⟩)
set_option maxHeartbeats 1600000 in
theorem sMask (k : Nat) (hk : k ≤ 4) (w : World) : Calls Tryd.prog 19 #[.int .i64 (k : Int)] w fun e w' => e = .returned (.int .i64 ((tmask k : Nat) : Int)) ∧ w' = w := by
  match k, hk with
  | 0, _ => (go_enter Tryd.func19, Tryd.ntmps19; go_wp2; exact bodyPost_ret (v := .int .i64 1) (by simp [results, Tryd.results19, go_sem]; try decide) rfl ⟨rfl, rfl⟩)
  | 1, _ => (go_enter Tryd.func19, Tryd.ntmps19; go_wp2; exact bodyPost_ret (v := .int .i64 3) (by simp [results, Tryd.results19, go_sem]; try decide) rfl ⟨rfl, rfl⟩)
  | 2, _ => (go_enter Tryd.func19, Tryd.ntmps19; go_wp2; exact bodyPost_ret (v := .int .i64 15) (by simp [results, Tryd.results19, go_sem]; try decide) rfl ⟨rfl, rfl⟩)
  | 3, _ => (go_enter Tryd.func19, Tryd.ntmps19; go_wp2; exact bodyPost_ret (v := .int .i64 255) (by simp [results, Tryd.results19, go_sem]; try decide) rfl ⟨rfl, rfl⟩)
  | 4, _ => (go_enter Tryd.func19, Tryd.ntmps19; go_wp2; exact bodyPost_ret (v := .int .i64 65535) (by simp [results, Tryd.results19, go_sem]; try decide) rfl ⟨rfl, rfl⟩)
def FP0 (b gm n vr : Nat) : Nat → Value → Prop
  | 0, v => v = .pointer (some ⟨b, 0, none⟩)
  | 1, v => v = .pointer (some ⟨b, 0, none⟩)
  | 2, v => v = .pointer (some ⟨b, 9, none⟩)
  | 3, v => v = .slice (some ⟨gm, 0, none⟩) n n
  | 4, v => v = .int .i64 (vr : Int)
  | 5, v => v = .pointer (some ⟨b, 0, none⟩)
  | 6, v => v = .pointer (some ⟨b, 0, none⟩)
  | 7, v => v = .pointer (some ⟨b, 8, none⟩)
  | 8, v => v = .int .i64 1
  | 9, v => v = .pointer (some ⟨gm, vr, none⟩)
  | 10, v => True
  | _, _ => True
set_option maxHeartbeats 8000000 in
theorem iPut {b gm gt n vr t : Nat} {p0 p1 p2 p3 p4 p5 : Value} {first mask : Nat} {R : List (Option Nat)} {L : Nat → Prop} {W : World} (hd : b ≠ gm ∧ b ≠ gt ∧ gm ≠ gt) (h : Tb b gm gt n p0 p1 p2 p3 p4 p5 first mask 1 R L W) (hv : vr < n) (hn : n ≤ 1048576) (hR : R[vr]? = some (some t)) {L' : Nat → Prop} (hL : ∀ i, L' i → L i ∨ i = vr) :
    Calls Tryd.prog 53 #[.pointer (some ⟨b, 0, none⟩), .int .i64 (vr : Int), .int .i64 (t : Int)] W fun e w' => e = .returned (.tuple #[]) ∧ Tb b gm gt n p0 p1 p2 p3 p4 p5 first mask 1 R L' w' ∧ FS (fun k => k = gm ∨ k = gt) W w' := by
  obtain ⟨_, _, _, c8, c9, c10⟩ := h.get
  obtain ⟨m0, t0, k1, k2, k3, k4, _, _⟩ := h.met vr hv
  have HC8 := hide c8
  have HC9 := hide c9
  have HC10 := hide c10
  have HMC : Hid (∃ m, W.cell? ⟨gm, vr, none⟩ = some (.int .i64 m) ∧ W.frozen? ⟨gm, vr, none⟩ = false) := hide ⟨m0, k1, k2⟩
  have HTC := hide (And.intro k3 k4)
  have HT := hide h
  have HD := hide hd
  have HRR := hide hR
  have HLL := hide hL
  have i1 : (0 : Int) ≤ (vr : Int) := by omega
  have i2 : (vr : Int) < (n : Int) := by omega
  clear c8 c9 c10 k1 k2 k3 k4 h hd hR hL
  go_enter Tryd.func53, Tryd.ntmps53
  refine wp_seq_k ?_
  intro K hK
  have HK := hide hK
  clear hK
  refine wp_plan (GF (FP0 b gm n vr)) (JE W 10 (fun V => ∃ V0, Below W.heap.size W V0 ∧ V = V0.setCell ⟨gm, vr, none⟩ (.int .i64 1))) (by kernel_rfl) 23 (by kernel_rfl) (by kernel_rfl) ?hj ?hs ?hf
  case hj => exact JE.start (bdr (brf W))
  case hs =>
    refine ⟨?_, ?_, ?_, ?_, ?_, ?_, ?_, ?_, ?_, ?_, ?_, trivial⟩
    · exact se_val (by decide) (by kernel_rfl) rfl (fun l a V hp hB ha => ⟨.pointer (some ⟨b, 0, none⟩), by
        have x0 := (ev_form a 0).trans (old hp 0 (v := .pointer (some ⟨b, 0, none⟩)) (by kernel_rfl) (by kernel_rfl))
        go_simp, rfl⟩)
    · exact se_val (by decide) (by kernel_rfl) rfl (fun l a V hp hB ha => ⟨.pointer (some ⟨b, 0, none⟩), by
        have x6 := (ev_form a 6).trans (show a.eval (.tmp 6) = .pointer (some ⟨b, 0, none⟩) from kn hp ha 6 0 (by kernel_rfl) (by kernel_rfl))
        go_simp, rfl⟩)
    · exact se_val (by decide) (by kernel_rfl) rfl (fun l a V hp hB ha => ⟨.pointer (some ⟨b, 9, none⟩), by
        have x7 := (ev_form a 7).trans (show a.eval (.tmp 7) = .pointer (some ⟨b, 0, none⟩) from kn hp ha 7 1 (by kernel_rfl) (by kernel_rfl))
        go_simp, rfl⟩)
    · exact se_val (by decide) (by kernel_rfl) rfl (fun l a V hp hB ha => ⟨.slice (some ⟨gm, 0, none⟩) n n, by
        have x8 := (ev_form a 8).trans (show a.eval (.tmp 8) = .pointer (some ⟨b, 9, none⟩) from kn hp ha 8 2 (by kernel_rfl) (by kernel_rfl))
        have c9 := cell_later hB (unhide HC9)
        go_simp, rfl⟩)
    · exact se_val (by decide) (by kernel_rfl) rfl (fun l a V hp hB ha => ⟨.int .i64 (vr : Int), by
        have x1 := (ev_form a 1).trans (old hp 1 (v := .int .i64 (vr : Int)) (by kernel_rfl) (by kernel_rfl))
        go_simp, rfl⟩)
    · exact se_val (by decide) (by kernel_rfl) rfl (fun l a V hp hB ha => ⟨.pointer (some ⟨b, 0, none⟩), by
        have x0 := (ev_form a 0).trans (old hp 0 (v := .pointer (some ⟨b, 0, none⟩)) (by kernel_rfl) (by kernel_rfl))
        go_simp, rfl⟩)
    · exact se_val (by decide) (by kernel_rfl) rfl (fun l a V hp hB ha => ⟨.pointer (some ⟨b, 0, none⟩), by
        have x11 := (ev_form a 11).trans (show a.eval (.tmp 11) = .pointer (some ⟨b, 0, none⟩) from kn hp ha 11 5 (by kernel_rfl) (by kernel_rfl))
        go_simp, rfl⟩)
    · exact se_val (by decide) (by kernel_rfl) rfl (fun l a V hp hB ha => ⟨.pointer (some ⟨b, 8, none⟩), by
        have x12 := (ev_form a 12).trans (show a.eval (.tmp 12) = .pointer (some ⟨b, 0, none⟩) from kn hp ha 12 6 (by kernel_rfl) (by kernel_rfl))
        go_simp, rfl⟩)
    · exact se_val (by decide) (by kernel_rfl) rfl (fun l a V hp hB ha => ⟨.int .i64 1, by
        have x13 := (ev_form a 13).trans (show a.eval (.tmp 13) = .pointer (some ⟨b, 8, none⟩) from kn hp ha 13 7 (by kernel_rfl) (by kernel_rfl))
        have c8 := cell_later hB (unhide HC8)
        go_simp, rfl⟩)
    · exact se_val (by decide) (by kernel_rfl) rfl (fun l a V hp hB ha => ⟨.pointer (some ⟨gm, vr, none⟩), by
        have x9 := (ev_form a 9).trans (show a.eval (.tmp 9) = .slice (some ⟨gm, 0, none⟩) n n from kn hp ha 9 3 (by kernel_rfl) (by kernel_rfl))
        have x10 := (ev_form a 10).trans (show a.eval (.tmp 10) = .int .i64 (vr : Int) from kn hp ha 10 4 (by kernel_rfl) (by kernel_rfl))
        go_simp, rfl⟩)
    · refine se_last rfl (fun l a V hp hB ha => ?_) trivial
      have x15 := (ev_form a 15).trans (show a.eval (.tmp 15) = .pointer (some ⟨gm, vr, none⟩) from kn hp ha 15 9 (by kernel_rfl) (by kernel_rfl))
      have x14 := (ev_form a 14).trans (show a.eval (.tmp 14) = .int .i64 1 from kn hp ha 14 8 (by kernel_rfl) (by kernel_rfl))
      obtain ⟨m, hm, hfz⟩ := unhide HMC
      have m1 := cell_later hB hm
      have m2 := frozen_later hB hm hfz
      exact ⟨V.setCell ⟨gm, vr, none⟩ (.int .i64 1), by go_simp, ⟨V, hB, rfl⟩⟩
  case hf =>
    intro l a V hp hall
    obtain ⟨V0, hV0, hVe⟩ := hp.j.2 (hall 10 (by decide))
    obtain ⟨us, rfl, hus⟩ := putAll_of [6, 7, 8, 9, 10, 11, 12, 13, 14, 15] hp.nt hp.df (fun t ht => hp.keep t (dstIn (by kernel_rfl) ht))
    have e10 : V.cell? ⟨b, 10, none⟩ = some (.slice (some ⟨gt, 0, none⟩) n n) := by rw [hVe]; exact otherCell _ _ _ _ (cell_later hV0 (unhide HC10)) (.inl (unhide HD).1)
    have et : V.cell? ⟨gt, vr, none⟩ = some (.int .i64 t0) := by rw [hVe]; exact otherCell _ _ _ _ (cell_later hV0 (unhide HTC).1) (.inl (Ne.symm (unhide HD).2.2))
    have ef : V.frozen? ⟨gt, vr, none⟩ = false := by rw [hVe, frozSet]; exact frozen_later hV0 (unhide HTC).1 (unhide HTC).2
    have HR : Hid (Tb b gm gt n p0 p1 p2 p3 p4 p5 first mask 1 R L' (V.setCell ⟨gt, vr, none⟩ (.int .i64 (t : Int))) ∧ FS (fun k => k = gm ∨ k = gt) W (V.setCell ⟨gt, vr, none⟩ (.int .i64 (t : Int)))) := hide ⟨by
      rw [hVe]; exact Tb.put (unhide HD) ((unhide HT).later hV0) hv (unhide HRR) (unhide HLL), by
      rw [hVe]; exact ((FS.of hV0).trans (FS.set (.inl rfl) _ _ _)).trans (FS.set (.inr rfl) _ _ _)⟩
    clear hp hall hus hVe hV0
    refine unhide HK _ _ ?_
    simp only [putAll, List.foldl, Act.put, List.setIfInBounds_toArray, List.set_cons_zero, List.set_cons_succ]
    go_wp2
    exact bodyPost_end (v := .tuple #[]) (by simp [results, Tryd.results53, go_sem]) rfl ⟨rfl, (unhide HR).1, (unhide HR).2⟩
end Go.Proofs.YtpkgcccbhfdaiaaDoor
namespace Go.Proofs.YtpkgcccbhfdaiaaDoor
open Go Go.RowKit Gs
set_option linter.unusedVariables false
set_option linter.unusedSimpArgs false
set_option maxRecDepth 100000
def FA2 (w0 : World) : Nat → World → Value → Prop := fun k w v => k = 13 → ∃ M, v = .pointer (some ⟨M, 0, none⟩) ∧ w0.heap.size ≤ M ∧ w.cell? ⟨M, 0, none⟩ = some (.int .i64 0) ∧ w.cell? ⟨M, 1, none⟩ = some (.int .i64 0) ∧ w.frozen? ⟨M, 0, none⟩ = false ∧ w.frozen? ⟨M, 1, none⟩ = false
theorem FA2.lasts (w0 : World) : Lasts (FA2 w0) := fun k w w' v hb h e => by
  obtain ⟨M, h1, h2, h3, h4, h5, h6⟩ := h e
  exact ⟨M, h1, h2, cell_later hb h3, cell_later hb h4, frozen_later hb h3 h5, frozen_later hb h4 h6⟩
def FiAnd (b first i ab ao al ac : Nat) (za zb : Int) : Nat → Value → Prop
  | 0, v => v = .pointer (some ⟨b, 0, none⟩)
  | 1, v => v = .pointer (some ⟨b, 0, none⟩)
  | 2, v => v = .pointer (some ⟨b, 0, none⟩)
  | 3, v => v = .pointer (some ⟨b, 3, none⟩)
  | 4, v => v = .slice (some ⟨ab, ao, none⟩) al ac
  | 5, v => v = .int .i64 ((first + i : Nat) : Int)
  | 6, v => v = .pointer (some ⟨b, 0, none⟩)
  | 7, v => v = .pointer (some ⟨b, 0, none⟩)
  | 8, v => v = .pointer (some ⟨b, 6, none⟩)
  | 9, v => v = .int .i64 (first : Int)
  | 10, v => v = .int .i64 (i : Int)
  | 11, v => v = .pointer (some ⟨ab, ao + i * 2, none⟩)
  | 12, v => v = .agg #[.int .i64 za, .int .i64 zb]
  | _, _ => True
def iAndOps : Array Oper := #[{ dst := some 38, op := Op.move (Operand.tmp 0), type := 60, pos := "l11_cuts.go:78", after := #[], guard := none }, { dst := some 39, op := Op.nilCheck (Operand.tmp 38), type := 0, pos := "l11_cuts.go:78", after := #[{ on := 0, ground := Ground.data }], guard := none }, { dst := some 40, op := Op.fieldAddr 94 (Operand.tmp 39) 0, type := 0, pos := "l11_cuts.go:78", after := #[{ on := 1, ground := Ground.data }], guard := none }, { dst := some 41, op := Op.fieldAddr 36 (Operand.tmp 40) 3, type := 0, pos := "l11_cuts.go:78", after := #[{ on := 2, ground := Ground.data }], guard := none }, { dst := some 42, op := Op.load 33 (Operand.tmp 41), type := 33, pos := "l11_cuts.go:78", after := #[{ on := 3, ground := Ground.data }], guard := none }, { dst := some 43, op := Op.move (Operand.tmp 1), type := 3, pos := "l11_cuts.go:78", after := #[], guard := none }, { dst := some 44, op := Op.move (Operand.tmp 0), type := 60, pos := "l11_cuts.go:78", after := #[], guard := none }, { dst := some 45, op := Op.nilCheck (Operand.tmp 44), type := 0, pos := "l11_cuts.go:78", after := #[{ on := 6, ground := Ground.data }], guard := none }, { dst := some 46, op := Op.fieldAddr 94 (Operand.tmp 45) 1, type := 0, pos := "l11_cuts.go:78", after := #[{ on := 7, ground := Ground.data }], guard := none }, { dst := some 47, op := Op.load 3 (Operand.tmp 46), type := 3, pos := "l11_cuts.go:78", after := #[{ on := 8, ground := Ground.data }], guard := none }, { dst := some 48, op := Op.binOp BinOp.sub 3 (Operand.tmp 43) (Operand.tmp 47) 3, type := 3, pos := "l11_cuts.go:78", after := #[{ on := 5, ground := Ground.data }, { on := 9, ground := Ground.data }], guard := none }, { dst := some 49, op := Op.indexAddr 33 (Operand.tmp 42) (Operand.tmp 48), type := 0, pos := "l11_cuts.go:78", after := #[{ on := 4, ground := Ground.data }, { on := 10, ground := Ground.data }], guard := none }, { dst := some 50, op := Op.load 75 (Operand.tmp 49), type := 75, pos := "l11_cuts.go:78", after := #[{ on := 11, ground := Ground.data }], guard := none }, { dst := some 5, op := Op.alloc 75, type := 0, pos := "l11_cuts.go:78", after := #[], guard := none }, { dst := none, op := Op.store 75 (Operand.tmp 5) (Operand.tmp 50), type := 0, pos := "l11_cuts.go:78", after := #[{ on := 13, ground := Ground.data }, { on := 12, ground := Ground.data }, { on := 0, ground := Ground.phase }, { on := 1, ground := Ground.phase }, { on := 2, ground := Ground.phase }, { on := 3, ground := Ground.phase }, { on := 4, ground := Ground.phase }, { on := 5, ground := Ground.phase }, { on := 6, ground := Ground.phase }, { on := 7, ground := Ground.phase }, { on := 8, ground := Ground.phase }, { on := 9, ground := Ground.phase }, { on := 10, ground := Ground.phase }, { on := 11, ground := Ground.phase }, { on := 12, ground := Ground.phase }, { on := 13, ground := Ground.phase }], guard := none }]
set_option maxHeartbeats 16000000 in
theorem iAnd {b first i ab ao al ac : Nat} {za zb : Int} {W : World} {Q : Exit → Act → World → Prop} (HC3 : Hid (W.cell? ⟨b, 3, none⟩ = some (.slice (some ⟨ab, ao, none⟩) al ac))) (HC6 : Hid (W.cell? ⟨b, 6, none⟩ = some (.int .i64 (first : Int)))) (hi : i < al) (hal : al ≤ 1048576) (HZA : Hid (W.cell? ⟨ab, ao + i * 2, none⟩ = some (.int .i64 za))) (HZB : Hid (W.cell? ⟨ab, ao + i * 2 + 1, none⟩ = some (.int .i64 zb)))
    (a0 : Act) (ha0 : a0.tmps.size = 65) (e0 : a0.eval (.tmp 0) = .pointer (some ⟨b, 0, none⟩)) (e1 : a0.eval (.tmp 1) = .int .i64 ((first + i : Nat) : Int))
    (hQ : ∀ a V M, a.tmps.size = a0.tmps.size → a.defers = a0.defers → (∀ t, t ∉ [38, 39, 40, 41, 42, 43, 44, 45, 46, 47, 48, 49, 50, 5] → a.eval (.tmp t) = a0.eval (.tmp t)) → a.eval (.tmp 5) = .pointer (some ⟨M, 0, none⟩) → W.heap.size ≤ M → V.cell? ⟨M, 0, none⟩ = some (.int .i64 za) → V.cell? ⟨M, 1, none⟩ = some (.int .i64 zb) → Below W.heap.size W V → Q .normal a V) :
    (Code.region 7 iAndOps true).wp Tryd.prog Q a0 W := by
  have HWR : Hid (IntKind.i64.wrap ((first : Int) + (i : Int) - (first : Int)) = (i : Int)) := hide (by rw [IntKind.wrap_i64]; omega)
  have j1 : (0 : Int) ≤ (i : Int) := by omega
  have j2 : (i : Int) < (al : Int) := by omega
  refine wp_plan (G2 (FiAnd b first i ab ao al ac za zb) (FA2 W) 14 13 (fun v V => ∃ M, v = .pointer (some ⟨M, 0, none⟩) ∧ W.heap.size ≤ M ∧ V.cell? ⟨M, 0, none⟩ = some (.int .i64 za) ∧ V.cell? ⟨M, 1, none⟩ = some (.int .i64 zb) ∧ Below W.heap.size W V)) (JE W 14 (fun _ => True)) (by kernel_rfl) 65 ha0 (by kernel_rfl) ?hj ?hs ?hf
  case hj => exact JE.start (bdr (brf W))
  case hs =>
    refine ⟨?_, ?_, ?_, ?_, ?_, ?_, ?_, ?_, ?_, ?_, ?_, ?_, ?_, ?_, ?_, trivial⟩
    · exact s2_val (by decide) (by kernel_rfl) rfl (fun l a V hp hB ha => ⟨.pointer (some ⟨b, 0, none⟩), by
        have x0 := (ev_form a 0).trans (old hp 0 (v := .pointer (some ⟨b, 0, none⟩)) (by kernel_rfl) e0)
        go_simp, rfl, fun e => absurd e (by decide)⟩)
    · exact s2_val (by decide) (by kernel_rfl) rfl (fun l a V hp hB ha => ⟨.pointer (some ⟨b, 0, none⟩), by
        have x38 := (ev_form a 38).trans (show a.eval (.tmp 38) = .pointer (some ⟨b, 0, none⟩) from (kn hp ha 38 0 (by kernel_rfl) (by kernel_rfl)).1)
        go_simp, rfl, fun e => absurd e (by decide)⟩)
    · exact s2_val (by decide) (by kernel_rfl) rfl (fun l a V hp hB ha => ⟨.pointer (some ⟨b, 0, none⟩), by
        have x39 := (ev_form a 39).trans (show a.eval (.tmp 39) = .pointer (some ⟨b, 0, none⟩) from (kn hp ha 39 1 (by kernel_rfl) (by kernel_rfl)).1)
        go_simp, rfl, fun e => absurd e (by decide)⟩)
    · exact s2_val (by decide) (by kernel_rfl) rfl (fun l a V hp hB ha => ⟨.pointer (some ⟨b, 3, none⟩), by
        have x40 := (ev_form a 40).trans (show a.eval (.tmp 40) = .pointer (some ⟨b, 0, none⟩) from (kn hp ha 40 2 (by kernel_rfl) (by kernel_rfl)).1)
        go_simp, rfl, fun e => absurd e (by decide)⟩)
    · exact s2_val (by decide) (by kernel_rfl) rfl (fun l a V hp hB ha => ⟨.slice (some ⟨ab, ao, none⟩) al ac, by
        have x41 := (ev_form a 41).trans (show a.eval (.tmp 41) = .pointer (some ⟨b, 3, none⟩) from (kn hp ha 41 3 (by kernel_rfl) (by kernel_rfl)).1)
        have c3 := cell_later hB (unhide HC3)
        go_simp, rfl, fun e => absurd e (by decide)⟩)
    · exact s2_val (by decide) (by kernel_rfl) rfl (fun l a V hp hB ha => ⟨.int .i64 ((first + i : Nat) : Int), by
        have x1 := (ev_form a 1).trans (old hp 1 (v := .int .i64 ((first + i : Nat) : Int)) (by kernel_rfl) e1)
        go_simp, rfl, fun e => absurd e (by decide)⟩)
    · exact s2_val (by decide) (by kernel_rfl) rfl (fun l a V hp hB ha => ⟨.pointer (some ⟨b, 0, none⟩), by
        have x0 := (ev_form a 0).trans (old hp 0 (v := .pointer (some ⟨b, 0, none⟩)) (by kernel_rfl) e0)
        go_simp, rfl, fun e => absurd e (by decide)⟩)
    · exact s2_val (by decide) (by kernel_rfl) rfl (fun l a V hp hB ha => ⟨.pointer (some ⟨b, 0, none⟩), by
        have x44 := (ev_form a 44).trans (show a.eval (.tmp 44) = .pointer (some ⟨b, 0, none⟩) from (kn hp ha 44 6 (by kernel_rfl) (by kernel_rfl)).1)
        go_simp, rfl, fun e => absurd e (by decide)⟩)
    · exact s2_val (by decide) (by kernel_rfl) rfl (fun l a V hp hB ha => ⟨.pointer (some ⟨b, 6, none⟩), by
        have x45 := (ev_form a 45).trans (show a.eval (.tmp 45) = .pointer (some ⟨b, 0, none⟩) from (kn hp ha 45 7 (by kernel_rfl) (by kernel_rfl)).1)
        go_simp, rfl, fun e => absurd e (by decide)⟩)
    · exact s2_val (by decide) (by kernel_rfl) rfl (fun l a V hp hB ha => ⟨.int .i64 (first : Int), by
        have x46 := (ev_form a 46).trans (show a.eval (.tmp 46) = .pointer (some ⟨b, 6, none⟩) from (kn hp ha 46 8 (by kernel_rfl) (by kernel_rfl)).1)
        have c6 := cell_later hB (unhide HC6)
        go_simp, rfl, fun e => absurd e (by decide)⟩)
    · exact s2_val (by decide) (by kernel_rfl) rfl (fun l a V hp hB ha => ⟨.int .i64 (i : Int), by
        have x43 := (ev_form a 43).trans (show a.eval (.tmp 43) = .int .i64 ((first + i : Nat) : Int) from (kn hp ha 43 5 (by kernel_rfl) (by kernel_rfl)).1)
        have x47 := (ev_form a 47).trans (show a.eval (.tmp 47) = .int .i64 (first : Int) from (kn hp ha 47 9 (by kernel_rfl) (by kernel_rfl)).1)
        have hw2 := unhide HWR
        go_simp, rfl, fun e => absurd e (by decide)⟩)
    · exact s2_val (by decide) (by kernel_rfl) rfl (fun l a V hp hB ha => ⟨.pointer (some ⟨ab, ao + i * 2, none⟩), by
        have x42 := (ev_form a 42).trans (show a.eval (.tmp 42) = .slice (some ⟨ab, ao, none⟩) al ac from (kn hp ha 42 4 (by kernel_rfl) (by kernel_rfl)).1)
        have x48 := (ev_form a 48).trans (show a.eval (.tmp 48) = .int .i64 (i : Int) from (kn hp ha 48 10 (by kernel_rfl) (by kernel_rfl)).1)
        go_simp, rfl, fun e => absurd e (by decide)⟩)
    · exact s2_val (by decide) (by kernel_rfl) rfl (fun l a V hp hB ha => ⟨.agg #[.int .i64 za, .int .i64 zb], by
        have x49 := (ev_form a 49).trans (show a.eval (.tmp 49) = .pointer (some ⟨ab, ao + i * 2, none⟩) from (kn hp ha 49 11 (by kernel_rfl) (by kernel_rfl)).1)
        have ca := cell_later hB (unhide HZA); have cb := cell_later hB (unhide HZB)
        go_simp, rfl, fun e => absurd e (by decide)⟩)
    · exact s2_new (FA2.lasts _) (by decide) (by kernel_rfl) rfl (fun l a V hp hB ha => ⟨.pointer (some ⟨V.heap.size, 0, none⟩), .cells #[.int .i64 0, .int .i64 0] 75, by go_simp, trivial, fun _ => ⟨V.heap.size, rfl, hB.size, by rw [World.cell?_alloc_new]; rfl, by rw [World.cell?_alloc_new]; rfl, (TP_made V #[.int .i64 0, .int .i64 0] 75 2 rfl 0 (by decide)).2, (TP_made V #[.int .i64 0, .int .i64 0] 75 2 rfl 1 (by decide)).2⟩⟩)
    · refine s2_last (t := 5) (by decide) rfl rfl (fun l a V hp hn hB ha => ?_) trivial
      have x50 := (ev_form a 50).trans (show a.eval (.tmp 50) = .agg #[.int .i64 za, .int .i64 zb] from (kn hp ha 50 12 (by kernel_rfl) (by kernel_rfl)).1)
      obtain ⟨M, hM, hMs, c0, c1, f0, f1⟩ := (kn hp ha 5 13 (by kernel_rfl) (by kernel_rfl)).2.1 hn rfl
      have x5 := (ev_form a 5).trans hM
      refine ⟨(V.setCell ⟨M, 0, none⟩ (.int .i64 za)).setCell ⟨M, 1, none⟩ (.int .i64 zb), by go_simp, trivial, ⟨M, hM, hMs, otherCell _ _ _ _ (sameCell _ _ _ _ c0) (.inr (by decide)), sameCell _ _ _ _ (otherCell _ _ _ _ c1 (.inr (by decide))), ((hB.setCell hMs _).setCell hMs _)⟩⟩
  case hf =>
    intro l a V hp hall
    obtain ⟨M, h1, h2, h3, h4, h5⟩ := (hp.good 13 _ 5 rfl rfl (hall 13 (by decide))).2.2 rfl (hall 14 (by decide))
    exact hQ a V M hp.nt hp.df (fun t ht => hp.keep t (dstIn (by kernel_rfl) ht)) h1 h2 h3 h4 h5
def FsAnd (b first i ab ao al ac : Nat) (za zb : Int) : Nat → Value → Prop
  | 0, v => v = .pointer (some ⟨b, 0, none⟩)
  | 1, v => v = .pointer (some ⟨b, 0, none⟩)
  | 2, v => v = .pointer (some ⟨b, 0, none⟩)
  | 3, v => v = .pointer (some ⟨b, 3, none⟩)
  | 4, v => v = .slice (some ⟨ab, ao, none⟩) al ac
  | 5, v => v = .int .i64 ((first + i : Nat) : Int)
  | 6, v => v = .pointer (some ⟨b, 0, none⟩)
  | 7, v => v = .pointer (some ⟨b, 0, none⟩)
  | 8, v => v = .pointer (some ⟨b, 6, none⟩)
  | 9, v => v = .int .i64 (first : Int)
  | 10, v => v = .int .i64 (i : Int)
  | 11, v => v = .pointer (some ⟨ab, ao + i * 2, none⟩)
  | 12, v => v = .agg #[.int .i64 za, .int .i64 zb]
  | _, _ => True
def sAndOps : Array Oper := #[{ dst := some 61, op := Op.move (Operand.tmp 0), type := 78, pos := "l11_cuts.go:30", after := #[], guard := none }, { dst := some 62, op := Op.nilCheck (Operand.tmp 61), type := 0, pos := "l11_cuts.go:30", after := #[{ on := 0, ground := Ground.data }], guard := none }, { dst := some 63, op := Op.fieldAddr 80 (Operand.tmp 62) 0, type := 0, pos := "l11_cuts.go:30", after := #[{ on := 1, ground := Ground.data }], guard := none }, { dst := some 64, op := Op.fieldAddr 36 (Operand.tmp 63) 3, type := 0, pos := "l11_cuts.go:30", after := #[{ on := 2, ground := Ground.data }], guard := none }, { dst := some 65, op := Op.load 33 (Operand.tmp 64), type := 33, pos := "l11_cuts.go:30", after := #[{ on := 3, ground := Ground.data }], guard := none }, { dst := some 66, op := Op.move (Operand.tmp 1), type := 3, pos := "l11_cuts.go:30", after := #[], guard := none }, { dst := some 67, op := Op.move (Operand.tmp 0), type := 78, pos := "l11_cuts.go:30", after := #[], guard := none }, { dst := some 68, op := Op.nilCheck (Operand.tmp 67), type := 0, pos := "l11_cuts.go:30", after := #[{ on := 6, ground := Ground.data }], guard := none }, { dst := some 69, op := Op.fieldAddr 80 (Operand.tmp 68) 1, type := 0, pos := "l11_cuts.go:30", after := #[{ on := 7, ground := Ground.data }], guard := none }, { dst := some 70, op := Op.load 3 (Operand.tmp 69), type := 3, pos := "l11_cuts.go:30", after := #[{ on := 8, ground := Ground.data }], guard := none }, { dst := some 71, op := Op.binOp BinOp.sub 3 (Operand.tmp 66) (Operand.tmp 70) 3, type := 3, pos := "l11_cuts.go:30", after := #[{ on := 5, ground := Ground.data }, { on := 9, ground := Ground.data }], guard := none }, { dst := some 72, op := Op.indexAddr 33 (Operand.tmp 65) (Operand.tmp 71), type := 0, pos := "l11_cuts.go:30", after := #[{ on := 4, ground := Ground.data }, { on := 10, ground := Ground.data }], guard := none }, { dst := some 73, op := Op.load 75 (Operand.tmp 72), type := 75, pos := "l11_cuts.go:30", after := #[{ on := 11, ground := Ground.data }], guard := none }, { dst := some 6, op := Op.alloc 75, type := 0, pos := "l11_cuts.go:30", after := #[], guard := none }, { dst := none, op := Op.store 75 (Operand.tmp 6) (Operand.tmp 73), type := 0, pos := "l11_cuts.go:30", after := #[{ on := 13, ground := Ground.data }, { on := 12, ground := Ground.data }, { on := 0, ground := Ground.phase }, { on := 1, ground := Ground.phase }, { on := 2, ground := Ground.phase }, { on := 3, ground := Ground.phase }, { on := 4, ground := Ground.phase }, { on := 5, ground := Ground.phase }, { on := 6, ground := Ground.phase }, { on := 7, ground := Ground.phase }, { on := 8, ground := Ground.phase }, { on := 9, ground := Ground.phase }, { on := 10, ground := Ground.phase }, { on := 11, ground := Ground.phase }, { on := 12, ground := Ground.phase }, { on := 13, ground := Ground.phase }], guard := none }]
set_option maxHeartbeats 16000000 in
theorem sAnd {b first i ab ao al ac : Nat} {za zb : Int} {W : World} {Q : Exit → Act → World → Prop} (HC3 : Hid (W.cell? ⟨b, 3, none⟩ = some (.slice (some ⟨ab, ao, none⟩) al ac))) (HC6 : Hid (W.cell? ⟨b, 6, none⟩ = some (.int .i64 (first : Int)))) (hi : i < al) (hal : al ≤ 1048576) (HZA : Hid (W.cell? ⟨ab, ao + i * 2, none⟩ = some (.int .i64 za))) (HZB : Hid (W.cell? ⟨ab, ao + i * 2 + 1, none⟩ = some (.int .i64 zb)))
    (a0 : Act) (ha0 : a0.tmps.size = 121) (e0 : a0.eval (.tmp 0) = .pointer (some ⟨b, 0, none⟩)) (e1 : a0.eval (.tmp 1) = .int .i64 ((first + i : Nat) : Int))
    (hQ : ∀ a V M, a.tmps.size = a0.tmps.size → a.defers = a0.defers → (∀ t, t ∉ [61, 62, 63, 64, 65, 66, 67, 68, 69, 70, 71, 72, 73, 6] → a.eval (.tmp t) = a0.eval (.tmp t)) → a.eval (.tmp 6) = .pointer (some ⟨M, 0, none⟩) → W.heap.size ≤ M → V.cell? ⟨M, 0, none⟩ = some (.int .i64 za) → V.cell? ⟨M, 1, none⟩ = some (.int .i64 zb) → Below W.heap.size W V → Q .normal a V) :
    (Code.region 13 sAndOps true).wp Tryd.prog Q a0 W := by
  have HWR : Hid (IntKind.i64.wrap ((first : Int) + (i : Int) - (first : Int)) = (i : Int)) := hide (by rw [IntKind.wrap_i64]; omega)
  have j1 : (0 : Int) ≤ (i : Int) := by omega
  have j2 : (i : Int) < (al : Int) := by omega
  refine wp_plan (G2 (FsAnd b first i ab ao al ac za zb) (FA2 W) 14 13 (fun v V => ∃ M, v = .pointer (some ⟨M, 0, none⟩) ∧ W.heap.size ≤ M ∧ V.cell? ⟨M, 0, none⟩ = some (.int .i64 za) ∧ V.cell? ⟨M, 1, none⟩ = some (.int .i64 zb) ∧ Below W.heap.size W V)) (JE W 14 (fun _ => True)) (by kernel_rfl) 121 ha0 (by kernel_rfl) ?hj ?hs ?hf
  case hj => exact JE.start (bdr (brf W))
  case hs =>
    refine ⟨?_, ?_, ?_, ?_, ?_, ?_, ?_, ?_, ?_, ?_, ?_, ?_, ?_, ?_, ?_, trivial⟩
    · exact s2_val (by decide) (by kernel_rfl) rfl (fun l a V hp hB ha => ⟨.pointer (some ⟨b, 0, none⟩), by
        have x0 := (ev_form a 0).trans (old hp 0 (v := .pointer (some ⟨b, 0, none⟩)) (by kernel_rfl) e0)
        go_simp, rfl, fun e => absurd e (by decide)⟩)
    · exact s2_val (by decide) (by kernel_rfl) rfl (fun l a V hp hB ha => ⟨.pointer (some ⟨b, 0, none⟩), by
        have x61 := (ev_form a 61).trans (show a.eval (.tmp 61) = .pointer (some ⟨b, 0, none⟩) from (kn hp ha 61 0 (by kernel_rfl) (by kernel_rfl)).1)
        go_simp, rfl, fun e => absurd e (by decide)⟩)
    · exact s2_val (by decide) (by kernel_rfl) rfl (fun l a V hp hB ha => ⟨.pointer (some ⟨b, 0, none⟩), by
        have x62 := (ev_form a 62).trans (show a.eval (.tmp 62) = .pointer (some ⟨b, 0, none⟩) from (kn hp ha 62 1 (by kernel_rfl) (by kernel_rfl)).1)
        go_simp, rfl, fun e => absurd e (by decide)⟩)
    · exact s2_val (by decide) (by kernel_rfl) rfl (fun l a V hp hB ha => ⟨.pointer (some ⟨b, 3, none⟩), by
        have x63 := (ev_form a 63).trans (show a.eval (.tmp 63) = .pointer (some ⟨b, 0, none⟩) from (kn hp ha 63 2 (by kernel_rfl) (by kernel_rfl)).1)
        go_simp, rfl, fun e => absurd e (by decide)⟩)
    · exact s2_val (by decide) (by kernel_rfl) rfl (fun l a V hp hB ha => ⟨.slice (some ⟨ab, ao, none⟩) al ac, by
        have x64 := (ev_form a 64).trans (show a.eval (.tmp 64) = .pointer (some ⟨b, 3, none⟩) from (kn hp ha 64 3 (by kernel_rfl) (by kernel_rfl)).1)
        have c3 := cell_later hB (unhide HC3)
        go_simp, rfl, fun e => absurd e (by decide)⟩)
    · exact s2_val (by decide) (by kernel_rfl) rfl (fun l a V hp hB ha => ⟨.int .i64 ((first + i : Nat) : Int), by
        have x1 := (ev_form a 1).trans (old hp 1 (v := .int .i64 ((first + i : Nat) : Int)) (by kernel_rfl) e1)
        go_simp, rfl, fun e => absurd e (by decide)⟩)
    · exact s2_val (by decide) (by kernel_rfl) rfl (fun l a V hp hB ha => ⟨.pointer (some ⟨b, 0, none⟩), by
        have x0 := (ev_form a 0).trans (old hp 0 (v := .pointer (some ⟨b, 0, none⟩)) (by kernel_rfl) e0)
        go_simp, rfl, fun e => absurd e (by decide)⟩)
    · exact s2_val (by decide) (by kernel_rfl) rfl (fun l a V hp hB ha => ⟨.pointer (some ⟨b, 0, none⟩), by
        have x67 := (ev_form a 67).trans (show a.eval (.tmp 67) = .pointer (some ⟨b, 0, none⟩) from (kn hp ha 67 6 (by kernel_rfl) (by kernel_rfl)).1)
        go_simp, rfl, fun e => absurd e (by decide)⟩)
    · exact s2_val (by decide) (by kernel_rfl) rfl (fun l a V hp hB ha => ⟨.pointer (some ⟨b, 6, none⟩), by
        have x68 := (ev_form a 68).trans (show a.eval (.tmp 68) = .pointer (some ⟨b, 0, none⟩) from (kn hp ha 68 7 (by kernel_rfl) (by kernel_rfl)).1)
        go_simp, rfl, fun e => absurd e (by decide)⟩)
    · exact s2_val (by decide) (by kernel_rfl) rfl (fun l a V hp hB ha => ⟨.int .i64 (first : Int), by
        have x69 := (ev_form a 69).trans (show a.eval (.tmp 69) = .pointer (some ⟨b, 6, none⟩) from (kn hp ha 69 8 (by kernel_rfl) (by kernel_rfl)).1)
        have c6 := cell_later hB (unhide HC6)
        go_simp, rfl, fun e => absurd e (by decide)⟩)
    · exact s2_val (by decide) (by kernel_rfl) rfl (fun l a V hp hB ha => ⟨.int .i64 (i : Int), by
        have x66 := (ev_form a 66).trans (show a.eval (.tmp 66) = .int .i64 ((first + i : Nat) : Int) from (kn hp ha 66 5 (by kernel_rfl) (by kernel_rfl)).1)
        have x70 := (ev_form a 70).trans (show a.eval (.tmp 70) = .int .i64 (first : Int) from (kn hp ha 70 9 (by kernel_rfl) (by kernel_rfl)).1)
        have hw2 := unhide HWR
        go_simp, rfl, fun e => absurd e (by decide)⟩)
    · exact s2_val (by decide) (by kernel_rfl) rfl (fun l a V hp hB ha => ⟨.pointer (some ⟨ab, ao + i * 2, none⟩), by
        have x65 := (ev_form a 65).trans (show a.eval (.tmp 65) = .slice (some ⟨ab, ao, none⟩) al ac from (kn hp ha 65 4 (by kernel_rfl) (by kernel_rfl)).1)
        have x71 := (ev_form a 71).trans (show a.eval (.tmp 71) = .int .i64 (i : Int) from (kn hp ha 71 10 (by kernel_rfl) (by kernel_rfl)).1)
        go_simp, rfl, fun e => absurd e (by decide)⟩)
    · exact s2_val (by decide) (by kernel_rfl) rfl (fun l a V hp hB ha => ⟨.agg #[.int .i64 za, .int .i64 zb], by
        have x72 := (ev_form a 72).trans (show a.eval (.tmp 72) = .pointer (some ⟨ab, ao + i * 2, none⟩) from (kn hp ha 72 11 (by kernel_rfl) (by kernel_rfl)).1)
        have ca := cell_later hB (unhide HZA); have cb := cell_later hB (unhide HZB)
        go_simp, rfl, fun e => absurd e (by decide)⟩)
    · exact s2_new (FA2.lasts _) (by decide) (by kernel_rfl) rfl (fun l a V hp hB ha => ⟨.pointer (some ⟨V.heap.size, 0, none⟩), .cells #[.int .i64 0, .int .i64 0] 75, by go_simp, trivial, fun _ => ⟨V.heap.size, rfl, hB.size, by rw [World.cell?_alloc_new]; rfl, by rw [World.cell?_alloc_new]; rfl, (TP_made V #[.int .i64 0, .int .i64 0] 75 2 rfl 0 (by decide)).2, (TP_made V #[.int .i64 0, .int .i64 0] 75 2 rfl 1 (by decide)).2⟩⟩)
    · refine s2_last (t := 6) (by decide) rfl rfl (fun l a V hp hn hB ha => ?_) trivial
      have x73 := (ev_form a 73).trans (show a.eval (.tmp 73) = .agg #[.int .i64 za, .int .i64 zb] from (kn hp ha 73 12 (by kernel_rfl) (by kernel_rfl)).1)
      obtain ⟨M, hM, hMs, c0, c1, f0, f1⟩ := (kn hp ha 6 13 (by kernel_rfl) (by kernel_rfl)).2.1 hn rfl
      have x6 := (ev_form a 6).trans hM
      refine ⟨(V.setCell ⟨M, 0, none⟩ (.int .i64 za)).setCell ⟨M, 1, none⟩ (.int .i64 zb), by go_simp, trivial, ⟨M, hM, hMs, otherCell _ _ _ _ (sameCell _ _ _ _ c0) (.inr (by decide)), sameCell _ _ _ _ (otherCell _ _ _ _ c1 (.inr (by decide))), ((hB.setCell hMs _).setCell hMs _)⟩⟩
  case hf =>
    intro l a V hp hall
    obtain ⟨M, h1, h2, h3, h4, h5⟩ := (hp.good 13 _ 6 rfl rfl (hall 13 (by decide))).2.2 rfl (hall 14 (by decide))
    exact hQ a V M hp.nt hp.df (fun t ht => hp.keep t (dstIn (by kernel_rfl) ht)) h1 h2 h3 h4 h5
end Go.Proofs.YtpkgcccbhfdaiaaDoor
namespace Go.Proofs.YtpkgcccbhfdaiaaDoor
open Go Go.RowKit Gs
set_option linter.unusedVariables false
set_option linter.unusedSimpArgs false
set_option maxRecDepth 100000
/-- What is thrown where a way ends at neither. -/
def stp (z : Int) : List PanicEntry := [{ v := .iface 91 (.agg #[.int .i64 z]), recovered := false }]
set_option maxHeartbeats 1600000 in
theorem iHalt (z : Int) (w : World) : Calls Tryd.prog 68 #[.int .i64 z] w fun e w' => e = .panicked (stp z) ∧ w' = w := by
  go_enter Tryd.func68, Tryd.ntmps68
  go_wp2
  exact ⟨rfl, rfl, rfl⟩
def VarC (b gm gt n l3 c3 : Nat) (p0 p1 p2 p4 p5 : Value) (s3 : Option Addr) (x : Aig) (ls : List Int) (W0 : World) (v : Nat) : Prop := ∀ W, Tb b gm gt n p0 p1 p2 (.slice s3 l3 c3) p4 p5 (firstN x) (tmask ls.length) 1 (allT x ls) (fun v => leafOf ls v ≠ none) W → Below W0.heap.size W0 W → Calls Tryd.prog 54 #[.pointer (some ⟨b, 0, none⟩), .int .i64 (v : Int)] W fun e w' => ((∃ t : Nat, (allT x ls)[v]? = some (some t) ∧ e = .returned (.int .i64 (t : Int)) ∧ Tb b gm gt n p0 p1 p2 (.slice s3 l3 c3) p4 p5 (firstN x) (tmask ls.length) 1 (allT x ls) (fun v => leafOf ls v ≠ none) w') ∨ ((allT x ls)[v]? = some none ∧ e = .panicked (stp 8))) ∧ FS (fun q => q = gm ∨ q = gt) W w'
def LitC (b gm gt n l3 c3 : Nat) (p0 p1 p2 p4 p5 : Value) (s3 : Option Addr) (x : Aig) (ls : List Int) (W0 : World) (l : Int) : Prop := ∀ W, Tb b gm gt n p0 p1 p2 (.slice s3 l3 c3) p4 p5 (firstN x) (tmask ls.length) 1 (allT x ls) (fun v => leafOf ls v ≠ none) W → Below W0.heap.size W0 W → Calls Tryd.prog 32 #[.pointer (some ⟨b, 0, none⟩), .int .i64 l] W fun e w' => ((∃ t : Nat, litT ls.length (allT x ls) l = some t ∧ e = .returned (.int .i64 (t : Int)) ∧ Tb b gm gt n p0 p1 p2 (.slice s3 l3 c3) p4 p5 (firstN x) (tmask ls.length) 1 (allT x ls) (fun v => leafOf ls v ≠ none) w') ∨ (litT ls.length (allT x ls) l = none ∧ e = .panicked (stp 8))) ∧ FS (fun q => q = gm ∨ q = gt) W w'
theorem litT_of {k : Nat} {R : List (Option Nat)} {l : Int} {t : Option Nat} (h : R[(l / 2).toNat]? = some t) : litT k R l = t.map (fun t => if l % 2 = 1 then negT k t else t) := by
  unfold litT
  rw [List.getD_eq_getElem?_getD, h]; rfl
set_option maxHeartbeats 8000000 in
theorem lit_of {b gm gt n l3 c3 : Nat} {p0 p1 p2 p4 p5 : Value} {s3 : Option Addr} {x : Aig} {ls : List Int} {W0 : World} (hk : ls.length ≤ 4) (l : Int) (h0 : 0 ≤ l) (hl : l ≤ 4194304) (hv : VarC b gm gt n l3 c3 p0 p1 p2 p4 p5 s3 x ls W0 (l / 2).toNat) : LitC b gm gt n l3 c3 p0 p1 p2 p4 p5 s3 x ls W0 l := by
  intro W hT hB
  obtain ⟨m, rfl⟩ : ∃ m : Nat, l = m := ⟨l.toNat, by omega⟩
  have HV := hide (hv W hT hB)
  have em : ((m : Int) / 2).toNat = m / 2 := by omega
  rw [em] at HV
  clear hv
  rcases Nat.mod_two_eq_zero_or_one m with h | h
  · have e : (m : Int) % 2 = 0 := by omega
    go_enter Tryd.func32, Tryd.ntmps32
    go_wp2_with fail
    rw [show (m : Int) / 2 = ((m / 2 : Nat) : Int) by omega]
    refine (unhide HV).mono ?_
    rintro e2 w' ⟨⟨t, ht, rfl, hT'⟩ | ⟨hn, rfl⟩, hF⟩
    · have HR := hide (And.intro hT' hF)
      have HL : Hid (litT ls.length (allT x ls) (m : Int) = some t) := hide (by rw [litT_of (t := some t) (by rw [em]; exact ht)]; simp [e])
      clear hT' hF ht
      go_wp2_with fail
      exact bodyPost_ret (v := .int .i64 (t : Int)) (by simp [results, Tryd.results32, go_sem]) rfl ⟨.inl ⟨t, unhide HL, rfl, (unhide HR).1⟩, (unhide HR).2⟩
    · have HL : Hid (litT ls.length (allT x ls) (m : Int) = none) := hide (by rw [litT_of (t := none) (by rw [em]; exact hn)]; rfl)
      exact ⟨rfl, .inr ⟨unhide HL, rfl⟩, hF⟩
  · have e : (m : Int) % 2 = 1 := by omega
    go_enter Tryd.func32, Tryd.ntmps32
    go_wp2_with fail
    rw [show (m : Int) / 2 = ((m / 2 : Nat) : Int) by omega]
    refine (unhide HV).mono ?_
    rintro e2 w' ⟨⟨t, ht, rfl, hT'⟩ | ⟨hn, rfl⟩, hF⟩
    · have HR := hide (And.intro hT' hF)
      have HL : Hid (litT ls.length (allT x ls) (m : Int) = some (negT ls.length t)) := hide (by rw [litT_of (t := some t) (by rw [em]; exact ht)]; simp [e])
      have hw := neg_i hk (allT_le ht)
      obtain ⟨_, _, c7, _, _, _⟩ := hT'.get
      clear hT' hF ht
      go_wp2_with fail
      exact bodyPost_ret (v := .int .i64 ((negT ls.length t : Nat) : Int)) (by simp [results, Tryd.results32, go_sem]) rfl ⟨.inl ⟨_, unhide HL, rfl, (unhide HR).1⟩, (unhide HR).2⟩
    · have HL : Hid (litT ls.length (allT x ls) (m : Int) = none) := hide (by rw [litT_of (t := none) (by rw [em]; exact hn)]; rfl)
      exact ⟨rfl, .inr ⟨unhide HL, rfl⟩, hF⟩
def FV8 (b M k : Nat) (R : List (Option Nat)) (za zb : Int) : Nat → Value → Prop
  | 0, v => v = .pointer (some ⟨b, 0, none⟩)
  | 1, v => v = .pointer (some ⟨M, 0, none⟩)
  | 2, v => v = .int .i64 za
  | 3, v => ∃ p : Nat, litT k R za = some p ∧ v = .int .i64 (p : Int)
  | 4, v => v = .pointer (some ⟨b, 0, none⟩)
  | 5, v => v = .pointer (some ⟨M, 1, none⟩)
  | 6, v => v = .int .i64 zb
  | 7, v => ∃ p : Nat, litT k R zb = some p ∧ v = .int .i64 (p : Int)
  | 8, v => ∃ p q : Nat, litT k R za = some p ∧ litT k R zb = some q ∧ v = .int .i64 ((p &&& q : Nat) : Int)
  | 9, v => ∃ p q : Nat, litT k R za = some p ∧ litT k R zb = some q ∧ v = .int .i64 ((p &&& q : Nat) : Int)
  | _, _ => True
def iVarOps8 : Array Oper := #[{ dst := some 51, op := Op.move (Operand.tmp 0), type := 60, pos := "l11_cuts.go:79", after := #[], guard := none }, { dst := some 52, op := Op.fieldAddr 75 (Operand.tmp 5) 0, type := 0, pos := "l11_cuts.go:79", after := #[], guard := none }, { dst := some 53, op := Op.load 3 (Operand.tmp 52), type := 3, pos := "l11_cuts.go:79", after := #[{ on := 1, ground := Ground.data }], guard := none }, { dst := some 54, op := Op.call { callee := Callee.value (Operand.func 32), args := #[Operand.tmp 51, Operand.tmp 53], argTypes := #[60, 3] }, type := 3, pos := "l11_cuts.go:79", after := #[{ on := 0, ground := Ground.data }, { on := 2, ground := Ground.data }], guard := none }, { dst := some 55, op := Op.move (Operand.tmp 0), type := 60, pos := "l11_cuts.go:79", after := #[], guard := none }, { dst := some 56, op := Op.fieldAddr 75 (Operand.tmp 5) 1, type := 0, pos := "l11_cuts.go:79", after := #[], guard := none }, { dst := some 57, op := Op.load 3 (Operand.tmp 56), type := 3, pos := "l11_cuts.go:79", after := #[{ on := 5, ground := Ground.data }], guard := none }, { dst := some 58, op := Op.call { callee := Callee.value (Operand.func 32), args := #[Operand.tmp 55, Operand.tmp 57], argTypes := #[60, 3] }, type := 3, pos := "l11_cuts.go:79", after := #[{ on := 4, ground := Ground.data }, { on := 6, ground := Ground.data }, { on := 3, ground := Ground.chain }], guard := none }, { dst := some 59, op := Op.binOp BinOp.and 3 (Operand.tmp 54) (Operand.tmp 58) 3, type := 3, pos := "l11_cuts.go:79", after := #[{ on := 3, ground := Ground.data }, { on := 7, ground := Ground.data }], guard := none }, { dst := some 6, op := Op.assign (Operand.tmp 59), type := 3, pos := "l11_cuts.go:79", after := #[{ on := 8, ground := Ground.data }, { on := 7, ground := Ground.chain }, { on := 0, ground := Ground.phase }, { on := 1, ground := Ground.phase }, { on := 2, ground := Ground.phase }, { on := 3, ground := Ground.phase }, { on := 4, ground := Ground.phase }, { on := 5, ground := Ground.phase }, { on := 6, ground := Ground.phase }, { on := 7, ground := Ground.phase }, { on := 8, ground := Ground.phase }], guard := none }]
set_option maxHeartbeats 16000000 in
theorem iVar8 {b gm gt n l3 c3 : Nat} {p0 p1 p2 p4 p5 : Value} {s3 : Option Addr} {x : Aig} {ls : List Int} {W0 : World} {M : Nat} {za zb : Int} {W : World} {Q : Exit → Act → World → Prop} (HS0 : Hid (∀ i, (i = gm ∨ i = gt) → W0.heap.size ≤ i)) (HM : Hid (¬ (M = gm ∨ M = gt))) (HLT : Hid (∀ (z : Int) (p : Nat), litT ls.length (allT x ls) z = some p → p < 65536))
    (HLA : Hid (LitC b gm gt n l3 c3 p0 p1 p2 p4 p5 s3 x ls W0 za)) (HLB : Hid (LitC b gm gt n l3 c3 p0 p1 p2 p4 p5 s3 x ls W0 zb)) (HT : Hid (Tb b gm gt n p0 p1 p2 (.slice s3 l3 c3) p4 p5 (firstN x) (tmask ls.length) 1 (allT x ls) (fun v => leafOf ls v ≠ none) W)) (HB : Hid (Below W0.heap.size W0 W)) (HCA : Hid (W.cell? ⟨M, 0, none⟩ = some (.int .i64 za))) (HCB : Hid (W.cell? ⟨M, 1, none⟩ = some (.int .i64 zb)))
    (a0 : Act) (ha0 : a0.tmps.size = 65) (e0 : a0.eval (.tmp 0) = .pointer (some ⟨b, 0, none⟩)) (e5 : a0.eval (.tmp 5) = .pointer (some ⟨M, 0, none⟩))
    (hX : ∀ a V, a.tmps.size = a0.tmps.size → a.defers = a0.defers → FS (fun q => q = gm ∨ q = gt) W V → (litT ls.length (allT x ls) za = none ∨ litT ls.length (allT x ls) zb = none) → Q (.panic (stp 8)) a V)
    (hQ : ∀ a V (p q : Nat), a.tmps.size = a0.tmps.size → a.defers = a0.defers → (∀ t, t ∉ [51, 52, 53, 54, 55, 56, 57, 58, 59, 6] → a.eval (.tmp t) = a0.eval (.tmp t)) → litT ls.length (allT x ls) za = some p → litT ls.length (allT x ls) zb = some q → a.eval (.tmp 6) = .int .i64 ((p &&& q : Nat) : Int) → Tb b gm gt n p0 p1 p2 (.slice s3 l3 c3) p4 p5 (firstN x) (tmask ls.length) 1 (allT x ls) (fun v => leafOf ls v ≠ none) V → FS (fun q => q = gm ∨ q = gt) W V → Q .normal a V) :
    (Code.region 8 iVarOps8 true).wp Tryd.prog Q a0 W := by
  have HNA : Hid (litT ls.length (allT x ls) za = none → (litT ls.length (allT x ls) za = none ∨ litT ls.length (allT x ls) zb = none)) := hide .inl
  have HNB : Hid (litT ls.length (allT x ls) zb = none → (litT ls.length (allT x ls) za = none ∨ litT ls.length (allT x ls) zb = none)) := hide .inr
  refine wp_planX (GF (FV8 b M ls.length (allT x ls) za zb)) (fun _ V => Tb b gm gt n p0 p1 p2 (.slice s3 l3 c3) p4 p5 (firstN x) (tmask ls.length) 1 (allT x ls) (fun v => leafOf ls v ≠ none) V ∧ Below W0.heap.size W0 V ∧ FS (fun q => q = gm ∨ q = gt) W V ∧ V.cell? ⟨M, 0, none⟩ = some (.int .i64 za) ∧ V.cell? ⟨M, 1, none⟩ = some (.int .i64 zb)) (fun ch V => ch = stp 8 ∧ FS (fun q => q = gm ∨ q = gt) W V ∧ (litT ls.length (allT x ls) za = none ∨ litT ls.length (allT x ls) zb = none)) (by kernel_rfl) 65 ha0 (by kernel_rfl) ?hj ?hs ?hx ?hf
  case hj => exact ⟨(unhide HT).later (bdr (brf W)), btr (unhide HB) (bdr (brf W)), FS.of (bdr (brf W)), unhide HCA, unhide HCB⟩
  case hs =>
    refine ⟨?_, ?_, ?_, ?_, ?_, ?_, ?_, ?_, ?_, ?_, trivial⟩
    · exact sx_val rfl (fun l a V hp hI hu ha => ⟨.pointer (some ⟨b, 0, none⟩), by
        have x0 := (ev_form a 0).trans (old hp 0 (v := .pointer (some ⟨b, 0, none⟩)) (by kernel_rfl) e0)
        go_simp, rfl⟩)
    · exact sx_val rfl (fun l a V hp hI hu ha => ⟨.pointer (some ⟨M, 0, none⟩), by
        have x5 := (ev_form a 5).trans (old hp 5 (v := .pointer (some ⟨M, 0, none⟩)) (by kernel_rfl) e5)
        go_simp, rfl⟩)
    · exact sx_val rfl (fun l a V hp hI hu ha => ⟨.int .i64 za, by
        have x52 := (ev_form a 52).trans (show a.eval (.tmp 52) = .pointer (some ⟨M, 0, none⟩) from kn hp ha 52 1 (by kernel_rfl) (by kernel_rfl))
        have cm := hI.2.2.2.1
        go_simp, rfl⟩)
    · refine sx_call (f := 32) rfl (fun l a V hp hI hu ha => ?_)
      have x51 := (ev_form a 51).trans (show a.eval (.tmp 51) = .pointer (some ⟨b, 0, none⟩) from kn hp ha 51 0 (by kernel_rfl) (by kernel_rfl))
      have x53 := (ev_form a 53).trans (show a.eval (.tmp 53) = .int .i64 za from kn hp ha 53 2 (by kernel_rfl) (by kernel_rfl))
      refine ⟨#[.pointer (some ⟨b, 0, none⟩), .int .i64 za], by go_simp, (unhide HLA V hI.1 hI.2.1).mono ?_⟩
      rintro e w' ⟨⟨t, ht, rfl, hT⟩ | ⟨hn, rfl⟩, hF⟩
      · exact .inl ⟨_, rfl, ⟨t, ht, rfl⟩, hT, FS.below hI.2.1 hF (unhide HS0) hI.2.1.size, hI.2.2.1.trans hF, hF.cell (unhide HM) hI.2.2.2.1, hF.cell (unhide HM) hI.2.2.2.2⟩
      · exact .inr ⟨_, rfl, rfl, hI.2.2.1.trans hF, unhide HNA hn⟩
    · exact sx_val rfl (fun l a V hp hI hu ha => ⟨.pointer (some ⟨b, 0, none⟩), by
        have x0 := (ev_form a 0).trans (old hp 0 (v := .pointer (some ⟨b, 0, none⟩)) (by kernel_rfl) e0)
        go_simp, rfl⟩)
    · exact sx_val rfl (fun l a V hp hI hu ha => ⟨.pointer (some ⟨M, 1, none⟩), by
        have x5 := (ev_form a 5).trans (old hp 5 (v := .pointer (some ⟨M, 0, none⟩)) (by kernel_rfl) e5)
        go_simp, rfl⟩)
    · exact sx_val rfl (fun l a V hp hI hu ha => ⟨.int .i64 zb, by
        have x56 := (ev_form a 56).trans (show a.eval (.tmp 56) = .pointer (some ⟨M, 1, none⟩) from kn hp ha 56 5 (by kernel_rfl) (by kernel_rfl))
        have cm := hI.2.2.2.2
        go_simp, rfl⟩)
    · refine sx_call (f := 32) rfl (fun l a V hp hI hu ha => ?_)
      have x55 := (ev_form a 55).trans (show a.eval (.tmp 55) = .pointer (some ⟨b, 0, none⟩) from kn hp ha 55 4 (by kernel_rfl) (by kernel_rfl))
      have x57 := (ev_form a 57).trans (show a.eval (.tmp 57) = .int .i64 zb from kn hp ha 57 6 (by kernel_rfl) (by kernel_rfl))
      refine ⟨#[.pointer (some ⟨b, 0, none⟩), .int .i64 zb], by go_simp, (unhide HLB V hI.1 hI.2.1).mono ?_⟩
      rintro e w' ⟨⟨t, ht, rfl, hT⟩ | ⟨hn, rfl⟩, hF⟩
      · exact .inl ⟨_, rfl, ⟨t, ht, rfl⟩, hT, FS.below hI.2.1 hF (unhide HS0) hI.2.1.size, hI.2.2.1.trans hF, hF.cell (unhide HM) hI.2.2.2.1, hF.cell (unhide HM) hI.2.2.2.2⟩
      · exact .inr ⟨_, rfl, rfl, hI.2.2.1.trans hF, unhide HNB hn⟩
    · refine sx_val rfl (fun l a V hp hI hu ha => ?_)
      obtain ⟨p, hp1, hp2⟩ := (kn hp ha 54 3 (by kernel_rfl) (by kernel_rfl) : ∃ p : Nat, litT ls.length (allT x ls) za = some p ∧ a.eval (.tmp 54) = .int .i64 (p : Int))
      obtain ⟨q, hq1, hq2⟩ := (kn hp ha 58 7 (by kernel_rfl) (by kernel_rfl) : ∃ q : Nat, litT ls.length (allT x ls) zb = some q ∧ a.eval (.tmp 58) = .int .i64 (q : Int))
      have x54 := (ev_form a 54).trans hp2
      have x58 := (ev_form a 58).trans hq2
      have hw := i64_and_nat p q (unhide HLT _ _ hp1) (unhide HLT _ _ hq1)
      exact ⟨.int .i64 ((p &&& q : Nat) : Int), by go_simp, ⟨p, q, hp1, hq1, rfl⟩⟩
    · refine sx_val rfl (fun l a V hp hI hu ha => ?_)
      obtain ⟨p, q, hp1, hq1, hv⟩ := (kn hp ha 59 8 (by kernel_rfl) (by kernel_rfl) : ∃ p q : Nat, litT ls.length (allT x ls) za = some p ∧ litT ls.length (allT x ls) zb = some q ∧ a.eval (.tmp 59) = .int .i64 ((p &&& q : Nat) : Int))
      have x59 := (ev_form a 59).trans hv
      exact ⟨.int .i64 ((p &&& q : Nat) : Int), by go_simp, ⟨p, q, hp1, hq1, rfl⟩⟩
  case hx =>
    rintro a ch V h1 h2 ⟨rfl, h3, h4⟩
    exact hX a V h1 h2 h3 h4
  case hf =>
    intro l a V hp hall
    obtain ⟨p, q, hp1, hq1, hv⟩ := hp.good 9 _ 6 rfl rfl (hall 9 (by decide))
    exact hQ a V p q hp.nt hp.df (fun t ht => hp.keep t (dstIn (by kernel_rfl) ht)) hp1 hq1 hv hp.j.1 hp.j.2.2.1
end Go.Proofs.YtpkgcccbhfdaiaaDoor
namespace Go.Proofs.YtpkgcccbhfdaiaaDoor
open Go Go.RowKit Gs
set_option linter.unusedVariables false
set_option linter.unusedSimpArgs false
set_option maxRecDepth 100000
theorem andT_some {k : Nat} {R : List (Option Nat)} {a : AndG} {p q : Nat} (h1 : litT k R a.a = some p) (h2 : litT k R a.b = some q) : andT k R a = some (p &&& q) := by unfold andT; rw [h1, h2]
theorem andT_none {k : Nat} {R : List (Option Nat)} {a : AndG} (h : litT k R a.a = none ∨ litT k R a.b = none) : andT k R a = none := by
  unfold andT
  rcases h with h | h
  · rw [h]
  · rw [h]; cases litT k R a.a <;> rfl
theorem litT_lt {x : Aig} {ls : List Int} (hk : ls.length ≤ 4) {z : Int} {p : Nat} (h : litT ls.length (allT x ls) z = some p) : p < 65536 := by
  have hm := tmask_lt hk
  unfold litT at h
  rw [Option.map_eq_some_iff] at h
  obtain ⟨u, hu, rfl⟩ := h
  have hu2 : (allT x ls)[(z / 2).toNat]? = some (some u) := by
    rw [List.getD_eq_getElem?_getD] at hu
    cases e3 : (allT x ls)[(z / 2).toNat]? with
    | none => rw [e3] at hu; cases hu
    | some y => rw [e3] at hu; exact congrArg some hu
  have := allT_le hu2
  split
  · unfold negT; omega
  · omega
set_option maxHeartbeats 32000000 in
theorem var_step {b gm gt n l3 c3 : Nat} {p0 p1 p2 p4 p5 : Value} {s3 : Option Addr} {x : Aig} {ls : List Int} {W0 : World} (hk : ls.length ≤ 4) (hd : b ≠ gm ∧ b ≠ gt ∧ gm ≠ gt) (hS0 : ∀ i, (i = gm ∨ i = gt) → W0.heap.size ≤ i) (hn : n = firstN x + x.ands.length) (hnb : n ≤ 1048576) (hl3 : l3 = x.ands.length) (hao : AO (firstN x) x.ands)
    (hcs : ∀ (i : Nat) a, x.ands[i]? = some a → ∃ b o, s3 = some ⟨b, o, none⟩ ∧ W0.cell? ⟨b, o + i * 2, none⟩ = some (.int .i64 a.a) ∧ W0.cell? ⟨b, o + i * 2 + 1, none⟩ = some (.int .i64 a.b)) (v : Nat) (hv : v < n) (ih : ∀ u, u < v → VarC b gm gt n l3 c3 p0 p1 p2 p4 p5 s3 x ls W0 u) : VarC b gm gt n l3 c3 p0 p1 p2 p4 p5 s3 x ls W0 v := by
  intro W hT hB
  obtain ⟨c3', c6, c7, c8, c9, c10⟩ := hT.get
  obtain ⟨m, t0, k1, k2, k3, k4, k5, k6⟩ := hT.met v hv
  have HT := hide hT
  have HB := hide hB
  have HD := hide hd
  have HS0 := hide hS0
  have HN := hide hn
  have HAO := hide hao
  have HCS := hide hcs
  have HIH := hide ih
  have i1 : (0 : Int) ≤ (v : Int) := by omega
  have i2 : (v : Int) < (n : Int) := by omega
  have HNB := hide hnb
  clear hT hB hd hS0 hn hao hcs ih
  by_cases hm : m = 1
  · subst hm
    obtain ⟨t', hR, rfl⟩ := k5 rfl
    have HR := hide hR
    clear k5 k6 hR k2 k4
    go_enter Tryd.func54, Tryd.ntmps54
    go_wp2_with fail
    go_quiet (fail)
    go_wp2_with fail
    exact bodyPost_ret (v := .int .i64 (t' : Int)) (by simp [results, Tryd.results54, go_sem]) rfl ⟨.inl ⟨t', unhide HR, rfl, (unhide HT).later (bdn (brf W))⟩, FS.of (bdn (brf W))⟩
  · have hme : (m == 1) = false := by simpa using hm
    have hlf : leafOf ls v = none := by
      cases e : leafOf ls v with
      | none => rfl
      | some t => exact absurd (k6 (by rw [e]; intro h; cases h)) hm
    have HLF := hide hlf
    clear k5 k6 k2 k4 hlf
    by_cases h0 : v = 0
    · subst h0
      have HR : Hid ((allT x ls)[0]? = some (some 0)) := hide (by rw [allT_first (by unfold firstN; omega) (unhide HLF)]; rfl)
      go_enter Tryd.func54, Tryd.ntmps54
      go_wp2_with fail
      go_quiet (fail)
      go_wp2_with fail
      exact bodyPost_ret (v := .int .i64 0) (by simp [results, Tryd.results54, go_sem]) rfl ⟨.inl ⟨0, unhide HR, rfl, (unhide HT).later (bdn (brf W))⟩, FS.of (bdn (brf W))⟩
    · have hv0 : ((v : Int) == 0) = false := by rw [beq_eq_false_iff_ne]; omega
      by_cases hf : v < firstN x
      · have HR : Hid ((allT x ls)[v]? = some none) := hide (by rw [allT_first hf (unhide HLF), if_neg h0])
        have hfi : decide ((v : Int) < ((firstN x : Nat) : Int)) = true := decide_eq_true (by omega)
        have HH := hide (fun V => iHalt 8 V)
        go_enter Tryd.func54, Tryd.ntmps54
        go_wp2_with fail
        go_quiet (fail)
        go_wp2_with fail
        refine (unhide HH _).mono ?_
        rintro e w' ⟨rfl, rfl⟩
        exact ⟨rfl, .inr ⟨unhide HR, rfl⟩, FS.of (bdn (brf W))⟩
      · have hfi : decide ((v : Int) < ((firstN x : Nat) : Int)) = false := decide_eq_false (by omega)
        obtain ⟨i, hvi⟩ : ∃ i, v = firstN x + i := ⟨v - firstN x, by omega⟩
        have hil : i < x.ands.length := by have := unhide HN; omega
        have hxi : x.ands[i]? = some x.ands[i] := List.getElem?_eq_getElem hil
        generalize x.ands[i] = a at hxi
        obtain ⟨ab, ao, rfl, ca, cb⟩ := unhide HCS i a hxi
        obtain ⟨l1, l2, l5, l6⟩ := unhide HAO i a hxi
        have hvn := unhide HN
        have HLA : Hid (LitC b gm gt n l3 c3 p0 p1 p2 p4 p5 (some ⟨ab, ao, none⟩) x ls W0 a.a) := hide (lit_of hk a.a l1 (by omega) (unhide HIH _ (by omega)))
        have HLB : Hid (LitC b gm gt n l3 c3 p0 p1 p2 p4 p5 (some ⟨ab, ao, none⟩) x ls W0 a.b) := hide (lit_of hk a.b l5 (by omega) (unhide HIH _ (by omega)))
        have HR : Hid ((allT x ls)[v]? = some (andT ls.length (allT x ls) a)) := hide (by rw [hvi]; exact allT_and (unhide HAO) hxi (by rw [← hvi]; exact unhide HLF))
        have HLT : Hid (∀ (z : Int) (p : Nat), litT ls.length (allT x ls) z = some p → p < 65536) := hide (fun z p h => litT_lt hk h)
        have HZ := hide (And.intro ca cb)
        have HV := hide hv
        subst hl3
        have hal : x.ands.length ≤ 1048576 := by omega
        clear hxi ca cb l1 l2 l5 l6 HCS HIH HAO hvn
        have HVI := hide hvi
        clear hvi
        go_enter Tryd.func54, Tryd.ntmps54
        go_wp2_with fail
        go_quiet (fail)
        go_wp2_with fail
        have hbW : Below W.heap.size W (W.drewN nq) := bdn (brf W)
        have HC3 := hide (cell_later hbW c3')
        have HC6 := hide (cell_later hbW c6)
        have hB1 := btr (unhide HB) hbW
        refine iAnd (za := a.a) (zb := a.b) HC3 HC6 hil hal (hide (cell_later hB1 (unhide HZ).1)) (hide (cell_later hB1 (unhide HZ).2)) _ rfl rfl (by rw [← unhide HVI]; rfl) ?_
        intro a1 V M hnt hdf hkeep h5 hMs hca hcb hbV
        obtain ⟨us, rfl, hus⟩ := putAll_of [38, 39, 40, 41, 42, 43, 44, 45, 46, 47, 48, 49, 50, 5] hnt hdf hkeep
        have hu5 : us 5 = .pointer (some ⟨M, 0, none⟩) := (hus 5).trans h5
        clear hnt hdf hkeep hus h5
        simp only [putAll, List.foldl, Act.put, List.setIfInBounds_toArray, List.set_cons_zero, List.set_cons_succ, hu5]
        clear hu5
        generalize us 38 = z38 at *
        generalize us 39 = z39 at *
        generalize us 40 = z40 at *
        generalize us 41 = z41 at *
        generalize us 42 = z42 at *
        generalize us 43 = z43 at *
        generalize us 44 = z44 at *
        generalize us 45 = z45 at *
        generalize us 46 = z46 at *
        generalize us 47 = z47 at *
        generalize us 48 = z48 at *
        generalize us 49 = z49 at *
        generalize us 50 = z50 at *
        have hbV0 := btr hbW hbV
        have HTV := hide ((unhide HT).later hbV0)
        have HBV := hide (btr (unhide HB) hbV0)
        have HFV : Hid (FS (fun q => q = gm ∨ q = gt) W V) := hide (FS.of hbV0)
        have HCA := hide hca
        have HCB := hide hcb
        have HM : Hid (¬ (M = gm ∨ M = gt)) := hide (by
          have q1 := World.block_lt_of_cell? _ _ k1
          have q2 := World.block_lt_of_cell? _ _ k3
          have := hbW.size
          simp only at q1 q2
          omega)
        clear hbV hbW hca hcb hMs hbV0 HC3 HC6 hB1 k1 k3 c3' c6 c7 c8 c9 c10
        go_wp2_with fail
        refine iVar8 HS0 HM HLT HLA HLB HTV HBV HCA HCB _ rfl rfl rfl ?hX ?hQ
        case hX =>
          intro a2 V2 h1 h2 hF hnone
          exact ⟨h2, .inr ⟨by rw [unhide HR, andT_none hnone], rfl⟩, (unhide HFV).trans hF⟩
        case hQ =>
          intro a2 V2 p q hnt hdf hkeep hp1 hq1 h6 hT2 hF2
          obtain ⟨us, rfl, hus⟩ := putAll_of [51, 52, 53, 54, 55, 56, 57, 58, 59, 6] hnt hdf hkeep
          have hu6 : us 6 = .int .i64 ((p &&& q : Nat) : Int) := (hus 6).trans h6
          clear hnt hdf hkeep hus h6
          simp only [putAll, List.foldl, Act.put, List.setIfInBounds_toArray, List.set_cons_zero, List.set_cons_succ, hu6]
          clear hu6
          generalize us 51 = z51 at *
          generalize us 52 = z52 at *
          generalize us 53 = z53 at *
          generalize us 54 = z54 at *
          generalize us 55 = z55 at *
          generalize us 56 = z56 at *
          generalize us 57 = z57 at *
          generalize us 58 = z58 at *
          generalize us 59 = z59 at *
          have HR2 : Hid ((allT x ls)[v]? = some (some (p &&& q))) := hide (by rw [unhide HR, andT_some hp1 hq1])
          have HPT := hide (iPut (L' := fun v => leafOf ls v ≠ none) (unhide HD) hT2 (unhide HV) (unhide HNB) (unhide HR2) (fun i h => .inl h))
          have HF2 := hide ((unhide HFV).trans hF2)
          clear hT2 hF2 hp1 hq1 HR
          generalize p &&& q = pq at *
          go_wp2_with fail
          refine (unhide HPT).mono ?_
          rintro e V3 ⟨rfl, hT3, hF3⟩
          have HE := hide (And.intro hT3 ((unhide HF2).trans hF3))
          clear hT3 hF3 HPT
          go_wp2_with fail
          exact bodyPost_ret (v := .int .i64 (pq : Int)) (by simp [results, Tryd.results54, go_sem]) rfl ⟨.inl ⟨pq, unhide HR2, rfl, (unhide HE).1⟩, (unhide HE).2⟩
theorem iVar {b gm gt n l3 c3 : Nat} {p0 p1 p2 p4 p5 : Value} {s3 : Option Addr} {x : Aig} {ls : List Int} {W0 : World} (hk : ls.length ≤ 4) (hd : b ≠ gm ∧ b ≠ gt ∧ gm ≠ gt) (hS0 : ∀ i, (i = gm ∨ i = gt) → W0.heap.size ≤ i) (hn : n = firstN x + x.ands.length) (hnb : n ≤ 1048576) (hl3 : l3 = x.ands.length) (hao : AO (firstN x) x.ands)
    (hcs : ∀ (i : Nat) a, x.ands[i]? = some a → ∃ b o, s3 = some ⟨b, o, none⟩ ∧ W0.cell? ⟨b, o + i * 2, none⟩ = some (.int .i64 a.a) ∧ W0.cell? ⟨b, o + i * 2 + 1, none⟩ = some (.int .i64 a.b)) : ∀ v, v < n → VarC b gm gt n l3 c3 p0 p1 p2 p4 p5 s3 x ls W0 v := by
  intro v
  induction v using Nat.strongRecOn with
  | ind v ih =>
    intro hv
    exact var_step hk hd hS0 hn hnb hl3 hao hcs v hv (fun u hu => ih u hu (by omega))
theorem iLitT {b gm gt n l3 c3 : Nat} {p0 p1 p2 p4 p5 : Value} {s3 : Option Addr} {x : Aig} {ls : List Int} {W0 : World} (hk : ls.length ≤ 4) (hd : b ≠ gm ∧ b ≠ gt ∧ gm ≠ gt) (hS0 : ∀ i, (i = gm ∨ i = gt) → W0.heap.size ≤ i) (hn : n = firstN x + x.ands.length) (hnb : n ≤ 1048576) (hl3 : l3 = x.ands.length) (hao : AO (firstN x) x.ands)
    (hcs : ∀ (i : Nat) a, x.ands[i]? = some a → ∃ b o, s3 = some ⟨b, o, none⟩ ∧ W0.cell? ⟨b, o + i * 2, none⟩ = some (.int .i64 a.a) ∧ W0.cell? ⟨b, o + i * 2 + 1, none⟩ = some (.int .i64 a.b)) (l : Int) (h0 : 0 ≤ l) (hl : l < 2 * (n : Int)) : LitC b gm gt n l3 c3 p0 p1 p2 p4 p5 s3 x ls W0 l :=
  lit_of hk l h0 (by omega) (iVar hk hd hS0 hn hnb hl3 hao hcs _ (by omega))
end Go.Proofs.YtpkgcccbhfdaiaaDoor
