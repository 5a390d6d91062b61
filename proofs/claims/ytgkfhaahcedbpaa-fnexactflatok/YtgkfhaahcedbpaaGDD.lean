/- Slices of plain data: what it is that one holds a list, in whatever memory. -/
import Derived.WalkKit
import Derived.WalkSpells
import Derived.WalkLawsBesides
import Derived.Test.YtgkfhaahcedbpaaGI1
namespace Go.Proofs.Ytgkfhaahcedbpaa.Gs
open Go Go.RowKit
set_option linter.unusedVariables false
/-- A way to read a datum out of cells; what lies in memory lies in blocks from B on. -/
abbrev Rd (α : Type) := World → Nat → α → List Value → Prop
/-- Reading goes on where the cells from B on are as they were. -/
def Keeps {α : Type} (R : Rd α) : Prop := ∀ (W W' : World) (B : Nat) (x : α) (u : List Value), (∀ b o y, B ≤ b → W.cell? ⟨b, o, none⟩ = some y → W'.cell? ⟨b, o, none⟩ = some y) → R W B x u → R W' B x u
def Lowers {α : Type} (R : Rd α) : Prop := ∀ (W : World) (B B' : Nat) (x : α) (u : List Value), B' ≤ B → R W B x u → R W B' x u
/-- The k cells at an address hold some values. -/
def At (W : World) (b o : Nat) (u : List Value) : Prop := ∀ j y, u[j]? = some y → W.cell? ⟨b, o + j, none⟩ = some y
/-- A slice that holds a list: each of its elements takes k cells. -/
def RS {α : Type} (k : Nat) (R : Rd α) (W : World) (B : Nat) (xs : List α) (v : Value) : Prop :=
  ∃ a c, v = .slice a xs.length c ∧ xs.length ≤ c ∧ xs.length ≤ maxLen ∧ (xs ≠ [] → ∃ b o, a = some ⟨b, o, none⟩ ∧ B ≤ b ∧ ∀ i x, xs[i]? = some x → ∃ u, u.length = k ∧ At W b (o + i * k) u ∧ R W B x u)
theorem RS.keep {α : Type} {k : Nat} {R : Rd α} (hR : Keeps R) {W W' : World} {B : Nat} {xs : List α} {v : Value} (h : ∀ b o y, B ≤ b → W.cell? ⟨b, o, none⟩ = some y → W'.cell? ⟨b, o, none⟩ = some y) (hs : RS k R W B xs v) : RS k R W' B xs v := by
  obtain ⟨a, c, hv, h1, h2, h3⟩ := hs
  refine ⟨a, c, hv, h1, h2, fun hne => ?_⟩
  obtain ⟨b, o, ha, hb, he⟩ := h3 hne
  refine ⟨b, o, ha, hb, fun i x hx => ?_⟩
  obtain ⟨u, hl, hat, hr⟩ := he i x hx
  exact ⟨u, hl, fun j y hj => h _ _ _ hb (hat j y hj), hR W W' B x u h hr⟩
theorem RS.low {α : Type} {k : Nat} {R : Rd α} (hR : Lowers R) {W : World} {B B' : Nat} {xs : List α} {v : Value} (h : B' ≤ B) (hs : RS k R W B xs v) : RS k R W B' xs v := by
  obtain ⟨a, c, hv, h1, h2, h3⟩ := hs
  refine ⟨a, c, hv, h1, h2, fun hne => ?_⟩
  obtain ⟨b, o, ha, hb, he⟩ := h3 hne
  refine ⟨b, o, ha, Nat.le_trans h hb, fun i x hx => ?_⟩
  obtain ⟨u, hl, hat, hr⟩ := he i x hx
  exact ⟨u, hl, hat, hR W B B' x u h hr⟩
theorem later_cells {W W' : World} (hb : Below W.heap.size W W') (B : Nat) : ∀ b o y, B ≤ b → W.cell? ⟨b, o, none⟩ = some y → W'.cell? ⟨b, o, none⟩ = some y := fun _ _ _ _ h => cell_later hb h
theorem RS.later {α : Type} {k : Nat} {R : Rd α} (hR : Keeps R) {W W' : World} {B : Nat} {xs : List α} {v : Value} (hs : RS k R W B xs v) (hb : Below W.heap.size W W') : RS k R W' B xs v := hs.keep hR (later_cells hb B)
/-- The slice as it stands, and its elements. -/
theorem RS.open {α : Type} {k : Nat} {R : Rd α} {W : World} {B : Nat} {xs : List α} {v : Value} (hs : RS k R W B xs v) : (xs = [] ∧ ∃ a c, v = .slice a 0 c) ∨ ∃ b o c, v = .slice (some ⟨b, o, none⟩) xs.length c ∧ xs.length ≤ c ∧ xs.length ≤ maxLen ∧ B ≤ b ∧ ∀ i x, xs[i]? = some x → ∃ u, u.length = k ∧ At W b (o + i * k) u ∧ R W B x u := by
  obtain ⟨a, c, hv, h1, h2, h3⟩ := hs
  by_cases hne : xs = []
  · exact .inl ⟨hne, a, c, by rw [hv, hne]; rfl⟩
  · obtain ⟨b, o, ha, hb, he⟩ := h3 hne
    exact .inr ⟨b, o, c, by rw [hv, ha], h1, h2, hb, he⟩
theorem RS.slice {α : Type} {k : Nat} {R : Rd α} {W : World} {B : Nat} {xs : List α} {v : Value} (hs : RS k R W B xs v) : ∃ a c, v = .slice a xs.length c := by
  obtain ⟨a, c, hv, _⟩ := hs; exact ⟨a, c, hv⟩
theorem RS.len {α : Type} {k : Nat} {R : Rd α} {W : World} {B : Nat} {xs : List α} {v : Value} (hs : RS k R W B xs v) : xs.length ≤ maxLen := by
  obtain ⟨a, c, hv, _, h, _⟩ := hs; exact h
theorem RS.nil {α : Type} (k : Nat) (R : Rd α) (W : World) (B : Nat) (a : Option Addr) (c : Nat) : RS k R W B ([] : List α) (.slice a 0 c) :=
  ⟨a, c, rfl, Nat.zero_le _, Nat.zero_le _, fun h => absurd rfl h⟩
/-- The cells of one element, by their numbers. -/
theorem At.get {W : World} {b o : Nat} {u : List Value} (h : At W b o u) {j : Nat} {y : Value} (hj : u[j]? = some y) : W.cell? ⟨b, o + j, none⟩ = some y := h j y hj
theorem At.get0 {W : World} {b o : Nat} {y : Value} {u : List Value} (h : At W b o (y :: u)) : W.cell? ⟨b, o, none⟩ = some y := h 0 y rfl
theorem At.tail {W : World} {b o : Nat} {y : Value} {u : List Value} (h : At W b o (y :: u)) : At W b (o + 1) u := fun j z hz => by
  have := h (j + 1) z (by simpa using hz)
  rwa [show o + (j + 1) = o + 1 + j by omega] at this
/-- Plain elements. -/
def RInt : Rd Int := fun _ _ x u => u = [.int .i64 x]
def RStr : Rd ByteArray := fun _ _ x u => u = [.string x] ∧ x.size ≤ maxLen
theorem RInt.keeps : Keeps RInt := fun _ _ _ _ _ _ h => h
theorem RInt.lowers : Lowers RInt := fun _ _ _ _ _ _ h => h
theorem RStr.keeps : Keeps RStr := fun _ _ _ _ _ _ h => h
theorem RStr.lowers : Lowers RStr := fun _ _ _ _ _ _ h => h
/-- A slice as an element. -/
def RL {α : Type} (k : Nat) (R : Rd α) : Rd (List α) := fun W B x u => ∃ v, u = [v] ∧ RS k R W B x v
theorem RL.keeps {α : Type} {k : Nat} {R : Rd α} (hR : Keeps R) : Keeps (RL k R) := by
  rintro W W' B x u h ⟨v, hu, hv⟩
  exact ⟨v, hu, hv.keep hR h⟩
theorem RL.lowers {α : Type} {k : Nat} {R : Rd α} (hR : Lowers R) : Lowers (RL k R) := by
  rintro W B B' x u h ⟨v, hu, hv⟩
  exact ⟨v, hu, hv.low hR h⟩
/-- How great a list is: as many as it has, and what each of them takes. -/
def szL {α : Type} (f : α → Nat) (xs : List α) : Nat := xs.length + (xs.map f).sum
/-- What the laws' sz functions answer. -/
def szR (s left : Nat) : Int := if s ≤ left then ((left - s : Nat) : Int) else -1
theorem szR_lt {s left : Nat} (h : left < s) : szR s left = -1 := if_neg (by omega)
theorem szR_le {s left : Nat} (h : s ≤ left) : szR s left = ((left - s : Nat) : Int) := if_pos h
def sm {α : Type} (f : α → Nat) (xs : List α) : Nat := (xs.map f).sum
theorem sm_take {α : Type} {f : α → Nat} {xs : List α} {j : Nat} {x : α} (h : xs[j]? = some x) : sm f (xs.take (j + 1)) = sm f (xs.take j) + f x := by
  unfold sm; rw [List.take_add_one, h]; simp
theorem sm_le {α : Type} {f : α → Nat} {xs : List α} (j : Nat) : sm f (xs.take j) ≤ sm f xs := by
  unfold sm
  have : (xs.map f).sum = ((xs.take j).map f).sum + ((xs.drop j).map f).sum := by rw [← List.sum_append, ← List.map_append, List.take_append_drop]
  omega
theorem szL_sm {α : Type} (f : α → Nat) (xs : List α) : szL f xs = xs.length + sm f xs := rfl
theorem sm_zero {α : Type} (xs : List α) : sm (fun _ => 0) xs = 0 := by
  unfold sm
  induction xs with
  | nil => rfl
  | cons x t ih => rw [List.map_cons, List.sum_cons, ih]
end Go.Proofs.Ytgkfhaahcedbpaa.Gs
namespace Go.Proofs.Ytgkfhaahcedbpaa
open Go.RowKit Gs
set_option linter.unusedVariables false
set_option maxRecDepth 100000
structure Signal where
  name : ByteArray
  kind : Int
  width : Int
  depth : Int
  signed : Bool
  init : ByteArray
def RSignal : Rd Signal := fun W B x u => u = [.string x.name, .int .i64 x.kind, .int .i64 x.width, .int .i64 x.depth, .bool x.signed, .string x.init] ∧ x.name.size ≤ maxLen ∧ x.init.size ≤ maxLen
theorem RSignal.keeps : Keeps RSignal := by
  rintro W W' B x u h ⟨hu, h0, h1⟩
  exact ⟨hu, h0, h1⟩
theorem RSignal.lowers : Lowers RSignal := by
  rintro W B B' x u h ⟨hu, h0, h1⟩
  exact ⟨hu, h0, h1⟩
def szSignal (x : Signal) : Nat := x.name.size + x.init.size
structure Ex where
  op : Int
  width : Int
  n : Int
  signed : Bool
  bits : ByteArray
  kids : List Ex
def RExN : Nat → Rd Ex
  | 0 => fun _ _ _ _ => False
  | d + 1 => fun W B x u => ∃ v5, u = [.int .i64 x.op, .int .i64 x.width, .int .i64 x.n, .bool x.signed, .string x.bits, v5] ∧ x.bits.size ≤ maxLen ∧ RS 6 (RExN d) W B x.kids v5
theorem RExN.keeps : ∀ d, Keeps (RExN d)
  | 0 => fun _ _ _ _ _ _ h => h.elim
  | d + 1 => by
    rintro W W' B x u h ⟨v5, hu, h0, h1⟩
    exact ⟨v5, hu, h0, h1.keep (RExN.keeps d) h⟩
theorem RExN.lowers : ∀ d, Lowers (RExN d)
  | 0 => fun _ _ _ _ _ _ h => h.elim
  | d + 1 => by
    rintro W B B' x u h ⟨v5, hu, h0, h1⟩
    exact ⟨v5, hu, h0, h1.low (RExN.lowers d) h⟩
theorem RExN.up : ∀ {d d' : Nat}, d ≤ d' → ∀ {W B x u}, RExN d W B x u → RExN d' W B x u
  | 0, _, _, _, _, _, _, h => h.elim
  | d + 1, 0, hd, _, _, _, _, _ => absurd hd (by omega)
  | d + 1, d' + 1, hd, _, _, _, _, h => by
    obtain ⟨v5, hu, h0, a, c, hv, e1, e2, e3⟩ := h
    refine ⟨v5, hu, h0, a, c, hv, e1, e2, fun hne => ?_⟩
    obtain ⟨b, o, ha, hb, he⟩ := e3 hne
    refine ⟨b, o, ha, hb, fun i x hx => ?_⟩
    obtain ⟨u, hl, hat, hr⟩ := he i x hx
    exact ⟨u, hl, hat, RExN.up (by omega) hr⟩
theorem RExN.cells : ∀ {d : Nat} {W : World} {B : Nat} {x : Ex} {u : List Value}, RExN d W B x u → ∃ v5, u = [.int .i64 x.op, .int .i64 x.width, .int .i64 x.n, .bool x.signed, .string x.bits, v5] ∧ x.bits.size ≤ maxLen ∧ ∃ d', RS 6 (RExN d') W B x.kids v5
  | 0, _, _, _, _, h => h.elim
  | d + 1, _, _, _, _, h => by
    obtain ⟨v5, hu, h0, h1⟩ := h
    exact ⟨v5, hu, h0, d, h1⟩
def szExN : Nat → Ex → Nat
  | 0, _ => 0
  | d + 1, x => x.bits.size + szL (szExN d) x.kids
structure St where
  kind : Int
  n : Int
  low : Int
  wide : Int
  exs : List Ex
  kids : List St
def RStN : Nat → Rd St
  | 0 => fun _ _ _ _ => False
  | d + 1 => fun W B x u => ∃ v4, ∃ v5, u = [.int .i64 x.kind, .int .i64 x.n, .int .i64 x.low, .int .i64 x.wide, v4, v5] ∧ RS 6 (RExN d) W B x.exs v4 ∧ RS 6 (RStN d) W B x.kids v5
theorem RStN.keeps : ∀ d, Keeps (RStN d)
  | 0 => fun _ _ _ _ _ _ h => h.elim
  | d + 1 => by
    rintro W W' B x u h ⟨v4, v5, hu, h0, h1⟩
    exact ⟨v4, v5, hu, h0.keep (RExN.keeps d) h, h1.keep (RStN.keeps d) h⟩
theorem RStN.lowers : ∀ d, Lowers (RStN d)
  | 0 => fun _ _ _ _ _ _ h => h.elim
  | d + 1 => by
    rintro W B B' x u h ⟨v4, v5, hu, h0, h1⟩
    exact ⟨v4, v5, hu, h0.low (RExN.lowers d) h, h1.low (RStN.lowers d) h⟩
theorem RS.upE {d d' : Nat} (hd : d ≤ d') {W : World} {B : Nat} {xs : List Ex} {v : Value} (h : RS 6 (RExN d) W B xs v) : RS 6 (RExN d') W B xs v := by
  obtain ⟨a, c, hv, e1, e2, e3⟩ := h
  refine ⟨a, c, hv, e1, e2, fun hne => ?_⟩
  obtain ⟨b, o, ha, hb, he⟩ := e3 hne
  refine ⟨b, o, ha, hb, fun i x hx => ?_⟩
  obtain ⟨u, hl, hat, hr⟩ := he i x hx
  exact ⟨u, hl, hat, RExN.up hd hr⟩
theorem RStN.up : ∀ {d d' : Nat}, d ≤ d' → ∀ {W B x u}, RStN d W B x u → RStN d' W B x u
  | 0, _, _, _, _, _, _, h => h.elim
  | d + 1, 0, hd, _, _, _, _, _ => absurd hd (by omega)
  | d + 1, d' + 1, hd, _, _, _, _, h => by
    obtain ⟨v4, v5, hu, h0, a, c, hv, e1, e2, e3⟩ := h
    refine ⟨v4, v5, hu, RS.upE (by omega) h0, a, c, hv, e1, e2, fun hne => ?_⟩
    obtain ⟨b, o, ha, hb, he⟩ := e3 hne
    refine ⟨b, o, ha, hb, fun i x hx => ?_⟩
    obtain ⟨u, hl, hat, hr⟩ := he i x hx
    exact ⟨u, hl, hat, RStN.up (by omega) hr⟩
theorem RS.upS {d d' : Nat} (hd : d ≤ d') {W : World} {B : Nat} {xs : List St} {v : Value} (h : RS 6 (RStN d) W B xs v) : RS 6 (RStN d') W B xs v := by
  obtain ⟨a, c, hv, e1, e2, e3⟩ := h
  refine ⟨a, c, hv, e1, e2, fun hne => ?_⟩
  obtain ⟨b, o, ha, hb, he⟩ := e3 hne
  refine ⟨b, o, ha, hb, fun i x hx => ?_⟩
  obtain ⟨u, hl, hat, hr⟩ := he i x hx
  exact ⟨u, hl, hat, RStN.up hd hr⟩
theorem RStN.cells : ∀ {d : Nat} {W : World} {B : Nat} {x : St} {u : List Value}, RStN d W B x u → ∃ v4, ∃ v5, u = [.int .i64 x.kind, .int .i64 x.n, .int .i64 x.low, .int .i64 x.wide, v4, v5] ∧ (∃ d', RS 6 (RExN d') W B x.exs v4) ∧ ∃ d', RS 6 (RStN d') W B x.kids v5
  | 0, _, _, _, _, h => h.elim
  | d + 1, _, _, _, _, h => by
    obtain ⟨v4, v5, hu, h0, h1⟩ := h
    exact ⟨v4, v5, hu, ⟨d, h0⟩, d, h1⟩
def szStN : Nat → St → Nat
  | 0, _ => 0
  | d + 1, x => szL (szExN d) x.exs + szL (szStN d) x.kids
structure Proc where
  kind : Int
  clock : Int
  name : ByteArray
  body : St
def RProcN (d : Nat) : Rd Proc := fun W B x u => ∃ v7, ∃ v8, u = [.int .i64 x.kind, .int .i64 x.clock, .string x.name, .int .i64 x.body.kind, .int .i64 x.body.n, .int .i64 x.body.low, .int .i64 x.body.wide, v7, v8] ∧ x.name.size ≤ maxLen ∧ RS 6 (RExN d) W B x.body.exs v7 ∧ RS 6 (RStN d) W B x.body.kids v8
theorem RProcN.keeps (d : Nat) : Keeps (RProcN d) := by
  rintro W W' B x u h ⟨v7, v8, hu, h0, h1, h2⟩
  exact ⟨v7, v8, hu, h0, h1.keep (RExN.keeps d) h, h2.keep (RStN.keeps d) h⟩
theorem RProcN.lowers (d : Nat) : Lowers (RProcN d) := by
  rintro W B B' x u h ⟨v7, v8, hu, h0, h1, h2⟩
  exact ⟨v7, v8, hu, h0, h1.low (RExN.lowers d) h, h2.low (RStN.lowers d) h⟩
def szProcN (d : Nat) (x : Proc) : Nat := x.name.size + szStN (d + 1) x.body
structure Flat where
  signals : List Signal
  procs : List Proc
def RFlatN (d : Nat) : Rd Flat := fun W B x u => ∃ v0, ∃ v1, u = [v0, v1] ∧ RS 6 RSignal W B x.signals v0 ∧ RS 9 (RProcN d) W B x.procs v1
theorem RFlatN.keeps (d : Nat) : Keeps (RFlatN d) := by
  rintro W W' B x u h ⟨v0, v1, hu, h0, h1⟩
  exact ⟨v0, v1, hu, h0.keep RSignal.keeps h, h1.keep (RProcN.keeps d) h⟩
theorem RFlatN.lowers (d : Nat) : Lowers (RFlatN d) := by
  rintro W B B' x u h ⟨v0, v1, hu, h0, h1⟩
  exact ⟨v0, v1, hu, h0.low RSignal.lowers h, h1.low (RProcN.lowers d) h⟩
def szFlatN (d : Nat) (x : Flat) : Nat := szL szSignal x.signals + szL (szProcN d) x.procs
end Go.Proofs.Ytgkfhaahcedbpaa
