/- The program's graph: all of a graph as bytes. -/
import Derived.Test.YtaamibonpmijaabAW6
import Derived.Test.YtaamibonpmijaabAC1
namespace Go.Proofs.Ytaamibonpmijaab
open Go Go.RowKit Gs
set_option linter.unusedVariables false
set_option linter.unusedSimpArgs false
set_option maxRecDepth 100000
def encLatch (l : Latch) : List UInt8 := encLt l.name l.next.toNat l.init.toNat l.clock.toNat
def encPin (p : Pin) : List UInt8 := encP p.name p.lit.toNat
def encAnds (vn : Nat) : List AndG → List UInt8
  | [] => []
  | x :: r => encA vn x.a.toNat x.b.toNat ++ encAnds (vn + 1) r
theorem encAnds_snoc (x : AndG) : ∀ (xs : List AndG) (vn : Nat), encAnds vn (xs ++ [x]) = encAnds vn xs ++ encA (vn + xs.length) x.a.toNat x.b.toNat
  | [], vn => by simp [encAnds]
  | y :: r, vn => by
    rw [List.cons_append, encAnds, encAnds, encAnds_snoc x r (vn + 1), List.length_cons, show vn + 1 + r.length = vn + (r.length + 1) by omega, List.append_assoc]
theorem encAnds_take (xs : List AndG) (vn k : Nat) (x : AndG) (h : xs[k]? = some x) : encAnds vn (xs.take (k + 1)) = encAnds vn (xs.take k) ++ encA (vn + k) x.a.toNat x.b.toNat := by
  have hk : k < xs.length := (List.getElem?_eq_some_iff.1 h).1
  rw [List.take_add_one, h]
  show encAnds vn (xs.take k ++ [x]) = _
  rw [encAnds_snoc, List.length_take, show min k xs.length = k by omega]
theorem encAnds_app : ∀ (xs ys : List AndG) (vn : Nat), encAnds vn (xs ++ ys) = encAnds vn xs ++ encAnds (vn + xs.length) ys
  | [], ys, vn => by simp [encAnds]
  | x :: r, ys, vn => by
    rw [List.cons_append, encAnds, encAnds, encAnds_app r ys (vn + 1), List.length_cons, show vn + 1 + r.length = vn + (r.length + 1) by omega, List.append_assoc]
theorem encAnds_le (xs : List AndG) (vn k : Nat) : (encAnds vn (xs.take k)).length ≤ (encAnds vn xs).length := by
  have h := encAnds_app (xs.take k) (xs.drop k) vn
  rw [List.take_append_drop] at h
  rw [h, List.length_append]
  omega
/-- How many variables stand ahead of the ands. -/
def firstA (a : Aig) : Nat := 1 + a.ins.length + a.latches.length
/-- A graph as bytes. -/
def bytesA (a : Aig) : List UInt8 := encL a.ins ++ (encL a.clocks ++ ((encN a.latches.length ++ a.latches.flatMap encLatch) ++ ((encN a.ands.length ++ encAnds (firstA a) a.ands) ++ ((encN a.outs.length ++ a.outs.flatMap encPin) ++ (encN a.checks.length ++ a.checks.flatMap encPin)))))
/-- What holds of a graph that is one. -/
structure Good (a : Aig) : Prop where
  n0 : a.ins.length ≤ 4096
  n1 : a.clocks.length ≤ 4096
  n2 : a.latches.length ≤ 4096
  n3 : a.ands.length ≤ 8192
  n4 : a.outs.length ≤ 4096
  n5 : a.checks.length ≤ 4096
  i0 : ∀ s ∈ a.ins, s.size ≤ 1000
  i1 : ∀ s ∈ a.clocks, s.size ≤ 1000
  i2 : ∀ l ∈ a.latches, l.name.size ≤ 1000 ∧ 0 ≤ l.next ∧ l.next ≤ 1000000 ∧ 0 ≤ l.init ∧ l.init ≤ 1000000 ∧ 0 ≤ l.clock ∧ l.clock ≤ 1000000
  i3 : ∀ (k : Nat) x, a.ands[k]? = some x → 0 ≤ x.a ∧ x.a < 2 * ((firstA a + k : Nat) : Int) ∧ 0 ≤ x.b ∧ x.b < 2 * ((firstA a + k : Nat) : Int)
  i4 : ∀ p ∈ a.outs, p.name.size ≤ 1000 ∧ 0 ≤ p.lit ∧ p.lit ≤ 1000000
  i5 : ∀ p ∈ a.checks, p.name.size ≤ 1000 ∧ 0 ≤ p.lit ∧ p.lit ≤ 1000000
theorem flat_max {α β : Type} (f : α → List β) (c : Nat) : ∀ (xs : List α), (∀ x ∈ xs, (f x).length ≤ c) → (xs.flatMap f).length ≤ xs.length * c
  | [], _ => by simp
  | x :: r, h => by
    rw [List.flatMap_cons, List.length_append, List.length_cons, Nat.add_mul, Nat.one_mul]
    have h1 := h x List.mem_cons_self
    have h2 := flat_max f c r (fun y hy => h y (List.mem_cons_of_mem _ hy))
    omega
theorem encT_len {s : ByteArray} (h : s.size ≤ 1000) : (encT s).length ≤ 1100 := by
  unfold encT
  have h1 := encN_ten (n := s.size) (by omega)
  rw [List.length_append, L_len]
  omega
theorem encL_len {ss : List ByteArray} (h : ∀ s ∈ ss, s.size ≤ 1000) (hn : ss.length ≤ 4096) : (encL ss).length ≤ 5000000 := by
  unfold encL
  have h1 := encN_ten (n := ss.length) (by omega)
  have h2 := flat_max encT 1100 ss (fun s hs => encT_len (h s hs))
  have : ss.length * 1100 ≤ 4096 * 1100 := Nat.mul_le_mul_right _ hn
  rw [List.length_append]
  omega
theorem encLatch_len {l : Latch} (h : l.name.size ≤ 1000 ∧ 0 ≤ l.next ∧ l.next ≤ 1000000 ∧ 0 ≤ l.init ∧ l.init ≤ 1000000 ∧ 0 ≤ l.clock ∧ l.clock ≤ 1000000) : (encLatch l).length ≤ 1200 := by
  unfold encLatch encLt
  have h0 := encT_len h.1
  have h1 := encN_ten (n := l.next.toNat) (by omega)
  have h2 := encN_ten (n := l.init.toNat) (by omega)
  have h3 := encN_ten (n := l.clock.toNat) (by omega)
  simp
  omega
theorem encPin_len {p : Pin} (h : p.name.size ≤ 1000 ∧ 0 ≤ p.lit ∧ p.lit ≤ 1000000) : (encPin p).length ≤ 1200 := by
  unfold encPin encP
  have h0 := encT_len h.1
  have h1 := encN_ten (n := p.lit.toNat) (by omega)
  rw [List.length_append]
  omega
theorem encA_len {vn a b : Nat} (h : vn ≤ 4194304) (ha : a < 2 * vn) (hb : b < 2 * vn) : (encA vn a b).length ≤ 20 := by
  unfold encA
  have h1 := encN_ten (n := 2 * vn - max a b) (by omega)
  have h2 := encN_ten (n := max a b - min a b) (by omega)
  rw [List.length_append]
  omega
theorem encAnds_len (vn : Nat) (xs : List AndG) (hv : vn + xs.length ≤ 4194304) (h : ∀ (k : Nat) x, xs[k]? = some x → 0 ≤ x.a ∧ x.a < 2 * ((vn + k : Nat) : Int) ∧ 0 ≤ x.b ∧ x.b < 2 * ((vn + k : Nat) : Int)) : (encAnds vn xs).length ≤ xs.length * 20 := by
  have key : ∀ k, k ≤ xs.length → (encAnds vn (xs.take k)).length ≤ k * 20 := by
    intro k
    induction k with
    | zero => intro _; simp [encAnds]
    | succ k ih =>
      intro hk
      have hx : xs[k]? = some xs[k] := List.getElem?_eq_getElem (by omega)
      obtain ⟨h1, h2, h3, h4⟩ := h k _ hx
      have := ih (by omega)
      have h5 := encA_len (vn := vn + k) (a := xs[k].a.toNat) (b := xs[k].b.toNat) (by omega) (by omega) (by omega)
      rw [encAnds_take xs vn k _ hx, List.length_append, Nat.add_mul]
      omega
  have := key xs.length (Nat.le_refl _)
  rwa [List.take_of_length_le (Nat.le_refl _)] at this
theorem Good.first {a : Aig} (h : Good a) : firstA a ≤ 8193 := by
  have := h.n0
  have := h.n2
  unfold firstA
  omega
theorem parts_len {a : Aig} (h : Good a) : (encL a.ins).length ≤ 5000000 ∧ (encL a.clocks).length ≤ 5000000 ∧ (encN a.latches.length ++ a.latches.flatMap encLatch).length ≤ 6000000 ∧ (encN a.ands.length ++ encAnds (firstA a) a.ands).length ≤ 6000000 ∧ (encN a.outs.length ++ a.outs.flatMap encPin).length ≤ 6000000 ∧ (encN a.checks.length ++ a.checks.flatMap encPin).length ≤ 6000000 := by
  have hf := h.first
  have e2 := flat_max encLatch 1200 a.latches (fun l hl => encLatch_len (h.i2 l hl))
  have e4 := flat_max encPin 1200 a.outs (fun l hl => encPin_len (h.i4 l hl))
  have e5 := flat_max encPin 1200 a.checks (fun l hl => encPin_len (h.i5 l hl))
  have m2 : a.latches.length * 1200 ≤ 4096 * 1200 := Nat.mul_le_mul_right _ h.n2
  have m4 : a.outs.length * 1200 ≤ 4096 * 1200 := Nat.mul_le_mul_right _ h.n4
  have m5 : a.checks.length * 1200 ≤ 4096 * 1200 := Nat.mul_le_mul_right _ h.n5
  have m3 : a.ands.length * 20 ≤ 8192 * 20 := Nat.mul_le_mul_right _ h.n3
  have e3 := encAnds_len (firstA a) a.ands (by have := h.n3; omega) h.i3
  have q2 := encN_ten (n := a.latches.length) (by have := h.n2; omega)
  have q3 := encN_ten (n := a.ands.length) (by have := h.n3; omega)
  have q4 := encN_ten (n := a.outs.length) (by have := h.n4; omega)
  have q5 := encN_ten (n := a.checks.length) (by have := h.n5; omega)
  refine ⟨encL_len h.i0 h.n0, encL_len h.i1 h.n1, ?_, ?_, ?_, ?_⟩ <;> rw [List.length_append] <;> omega
theorem bytesA_len {a : Aig} (h : Good a) : (bytesA a).length ≤ 40000000 := by
  obtain ⟨p0, p1, p2, p3, p4, p5⟩ := parts_len h
  unfold bytesA
  generalize encN a.latches.length ++ a.latches.flatMap encLatch = x2 at *
  generalize encN a.ands.length ++ encAnds (firstA a) a.ands = x3 at *
  generalize encN a.outs.length ++ a.outs.flatMap encPin = x4 at *
  generalize encN a.checks.length ++ a.checks.flatMap encPin = x5 at *
  simp only [List.length_append]
  omega
end Go.Proofs.Ytaamibonpmijaab
