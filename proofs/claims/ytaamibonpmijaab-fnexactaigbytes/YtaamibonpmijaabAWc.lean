/- The program's graph: all of a graph as bytes. -/
import Derived.Test.YtaamibonpmijaabAWb
import Derived.Test.YtaamibonpmijaabAC1
namespace Go.Proofs.Ytaamibonpmijaab
open Go Go.RowKit Gs
set_option linter.unusedVariables false
set_option linter.unusedSimpArgs false
set_option maxRecDepth 100000
def encLatch (l : Latch) : List UInt8 := encLt l.name l.next.toNat l.init.toNat l.clock.toNat
def encPin (p : Pin) : List UInt8 := encP p.name p.lit.toNat
def encAnds (vn : Nat) : List AndG → List UInt8
  | [] => []
  | x :: r => encA vn x.a.toNat x.b.toNat ++ encAnds (vn + 1) r
theorem encAnds_snoc (x : AndG) : ∀ (xs : List AndG) (vn : Nat), encAnds vn (xs ++ [x]) = encAnds vn xs ++ encA (vn + xs.length) x.a.toNat x.b.toNat
  | [], vn => by simp [encAnds]
  | y :: r, vn => by
    rw [List.cons_append, encAnds, encAnds, encAnds_snoc x r (vn + 1), List.length_cons, show vn + 1 + r.length = vn + (r.length + 1) by omega, List.append_assoc]
theorem encAnds_take (xs : List AndG) (vn k : Nat) (x : AndG) (h : xs[k]? = some x) : encAnds vn (xs.take (k + 1)) = encAnds vn (xs.take k) ++ encA (vn + k) x.a.toNat x.b.toNat := by
  have hk : k < xs.length := (List.getElem?_eq_some_iff.1 h).1
  rw [List.take_add_one, h]
  show encAnds vn (xs.take k ++ [x]) = _
  rw [encAnds_snoc, List.length_take, show min k xs.length = k by omega]
theorem encAnds_app : ∀ (xs ys : List AndG) (vn : Nat), encAnds vn (xs ++ ys) = encAnds vn xs ++ encAnds (vn + xs.length) ys
  | [], ys, vn => by simp [encAnds]
  | x :: r, ys, vn => by
    rw [List.cons_append, encAnds, encAnds, encAnds_app r ys (vn + 1), List.length_cons, show vn + 1 + r.length = vn + (r.length + 1) by omega, List.append_assoc]
theorem encAnds_le (xs : List AndG) (vn k : Nat) : (encAnds vn (xs.take k)).length ≤ (encAnds vn xs).length := by
  have h := encAnds_app (xs.take k) (xs.drop k) vn
  rw [List.take_append_drop] at h
  rw [h, List.length_append]
  omega
/-- How many variables stand ahead of the ands. -/
def firstA (a : Aig) : Nat := 1 + a.ins.length + a.latches.length
/-- A graph as bytes. -/
def bytesA (a : Aig) : List UInt8 := encL a.ins ++ (encL a.clocks ++ ((encN a.latches.length ++ a.latches.flatMap encLatch) ++ ((encN a.ands.length ++ encAnds (firstA a) a.ands) ++ ((encN a.outs.length ++ a.outs.flatMap encPin) ++ (encN a.checks.length ++ a.checks.flatMap encPin)))))
/-- What holds of a graph that is one. -/
structure Good (a : Aig) : Prop where
  n0 : a.ins.length ≤ 4096
  n1 : a.clocks.length ≤ 4096
  n2 : a.latches.length ≤ 4096
  n3 : a.ands.length ≤ 8192
  n4 : a.outs.length ≤ 4096
  n5 : a.checks.length ≤ 4096
  i0 : ∀ s ∈ a.ins, s.size ≤ 1000
  i1 : ∀ s ∈ a.clocks, s.size ≤ 1000
  i2 : ∀ l ∈ a.latches, l.name.size ≤ 1000 ∧ 0 ≤ l.next ∧ l.next ≤ 1000000 ∧ 0 ≤ l.init ∧ l.init ≤ 1000000 ∧ 0 ≤ l.clock ∧ l.clock ≤ 1000000
  i3 : ∀ (k : Nat) x, a.ands[k]? = some x → 0 ≤ x.a ∧ x.a < 2 * ((firstA a + k : Nat) : Int) ∧ 0 ≤ x.b ∧ x.b < 2 * ((firstA a + k : Nat) : Int)
  i4 : ∀ p ∈ a.outs, p.name.size ≤ 1000 ∧ 0 ≤ p.lit ∧ p.lit ≤ 1000000
  i5 : ∀ p ∈ a.checks, p.name.size ≤ 1000 ∧ 0 ≤ p.lit ∧ p.lit ≤ 1000000
theorem flat_max {α β : Type} (f : α → List β) (c : Nat) : ∀ (xs : List α), (∀ x ∈ xs, (f x).length ≤ c) → (xs.flatMap f).length ≤ xs.length * c
  | [], _ => by simp
  | x :: r, h => by
    rw [List.flatMap_cons, List.length_append, List.length_cons, Nat.add_mul, Nat.one_mul]
    have h1 := h x List.mem_cons_self
    have h2 := flat_max f c r (fun y hy => h y (List.mem_cons_of_mem _ hy))
    omega
theorem encT_len {s : ByteArray} (h : s.size ≤ 1000) : (encT s).length ≤ 1100 := by
  unfold encT
  have h1 := encN_ten (n := s.size) (by omega)
  rw [List.length_append, L_len]
  omega
theorem encL_len {ss : List ByteArray} (h : ∀ s ∈ ss, s.size ≤ 1000) (hn : ss.length ≤ 4096) : (encL ss).length ≤ 5000000 := by
  unfold encL
  have h1 := encN_ten (n := ss.length) (by omega)
  have h2 := flat_max encT 1100 ss (fun s hs => encT_len (h s hs))
  have : ss.length * 1100 ≤ 4096 * 1100 := Nat.mul_le_mul_right _ hn
  rw [List.length_append]
  omega
theorem encLatch_len {l : Latch} (h : l.name.size ≤ 1000 ∧ 0 ≤ l.next ∧ l.next ≤ 1000000 ∧ 0 ≤ l.init ∧ l.init ≤ 1000000 ∧ 0 ≤ l.clock ∧ l.clock ≤ 1000000) : (encLatch l).length ≤ 1200 := by
  unfold encLatch encLt
  have h0 := encT_len h.1
  have h1 := encN_ten (n := l.next.toNat) (by omega)
  have h2 := encN_ten (n := l.init.toNat) (by omega)
  have h3 := encN_ten (n := l.clock.toNat) (by omega)
  simp
  omega
theorem encPin_len {p : Pin} (h : p.name.size ≤ 1000 ∧ 0 ≤ p.lit ∧ p.lit ≤ 1000000) : (encPin p).length ≤ 1200 := by
  unfold encPin encP
  have h0 := encT_len h.1
  have h1 := encN_ten (n := p.lit.toNat) (by omega)
  rw [List.length_append]
  omega
theorem encA_len {vn a b : Nat} (h : vn ≤ 4194304) (ha : a < 2 * vn) (hb : b < 2 * vn) : (encA vn a b).length ≤ 20 := by
  unfold encA
  have h1 := encN_ten (n := 2 * vn - max a b) (by omega)
  have h2 := encN_ten (n := max a b - min a b) (by omega)
  rw [List.length_append]
  omega
theorem encAnds_len (vn : Nat) (xs : List AndG) (hv : vn + xs.length ≤ 4194304) (h : ∀ (k : Nat) x, xs[k]? = some x → 0 ≤ x.a ∧ x.a < 2 * ((vn + k : Nat) : Int) ∧ 0 ≤ x.b ∧ x.b < 2 * ((vn + k : Nat) : Int)) : (encAnds vn xs).length ≤ xs.length * 20 := by
  have key : ∀ k, k ≤ xs.length → (encAnds vn (xs.take k)).length ≤ k * 20 := by
    intro k
    induction k with
    | zero => intro _; simp [encAnds]
    | succ k ih =>
      intro hk
      have hx : xs[k]? = some xs[k] := List.getElem?_eq_getElem (by omega)
      obtain ⟨h1, h2, h3, h4⟩ := h k _ hx
      have := ih (by omega)
      have h5 := encA_len (vn := vn + k) (a := xs[k].a.toNat) (b := xs[k].b.toNat) (by omega) (by omega) (by omega)
      rw [encAnds_take xs vn k _ hx, List.length_append, Nat.add_mul]
      omega
  have := key xs.length (Nat.le_refl _)
  rwa [List.take_of_length_le (Nat.le_refl _)] at this
theorem Good.first {a : Aig} (h : Good a) : firstA a ≤ 8193 := by
  have := h.n0
  have := h.n2
  unfold firstA
  omega
theorem parts_len {a : Aig} (h : Good a) : (encL a.ins).length ≤ 5000000 ∧ (encL a.clocks).length ≤ 5000000 ∧ (encN a.latches.length ++ a.latches.flatMap encLatch).length ≤ 6000000 ∧ (encN a.ands.length ++ encAnds (firstA a) a.ands).length ≤ 6000000 ∧ (encN a.outs.length ++ a.outs.flatMap encPin).length ≤ 6000000 ∧ (encN a.checks.length ++ a.checks.flatMap encPin).length ≤ 6000000 := by
  have hf := h.first
  have e2 := flat_max encLatch 1200 a.latches (fun l hl => encLatch_len (h.i2 l hl))
  have e4 := flat_max encPin 1200 a.outs (fun l hl => encPin_len (h.i4 l hl))
  have e5 := flat_max encPin 1200 a.checks (fun l hl => encPin_len (h.i5 l hl))
  have m2 : a.latches.length * 1200 ≤ 4096 * 1200 := Nat.mul_le_mul_right _ h.n2
  have m4 : a.outs.length * 1200 ≤ 4096 * 1200 := Nat.mul_le_mul_right _ h.n4
  have m5 : a.checks.length * 1200 ≤ 4096 * 1200 := Nat.mul_le_mul_right _ h.n5
  have m3 : a.ands.length * 20 ≤ 8192 * 20 := Nat.mul_le_mul_right _ h.n3
  have e3 := encAnds_len (firstA a) a.ands (by have := h.n3; omega) h.i3
  have q2 := encN_ten (n := a.latches.length) (by have := h.n2; omega)
  have q3 := encN_ten (n := a.ands.length) (by have := h.n3; omega)
  have q4 := encN_ten (n := a.outs.length) (by have := h.n4; omega)
  have q5 := encN_ten (n := a.checks.length) (by have := h.n5; omega)
  refine ⟨encL_len h.i0 h.n0, encL_len h.i1 h.n1, ?_, ?_, ?_, ?_⟩ <;> rw [List.length_append] <;> omega
theorem bytesA_len {a : Aig} (h : Good a) : (bytesA a).length ≤ 40000000 := by
  obtain ⟨p0, p1, p2, p3, p4, p5⟩ := parts_len h
  unfold bytesA
  generalize encN a.latches.length ++ a.latches.flatMap encLatch = x2 at *
  generalize encN a.ands.length ++ encAnds (firstA a) a.ands = x3 at *
  generalize encN a.outs.length ++ a.outs.flatMap encPin = x4 at *
  generalize encN a.checks.length ++ a.checks.flatMap encPin = x5 at *
  simp only [List.length_append]
  omega
end Go.Proofs.Ytaamibonpmijaab
namespace Go.Proofs.Ytaamibonpmijaab
open Go Go.RowKit Gs
set_option linter.unusedVariables false
set_option linter.unusedSimpArgs false
set_option maxRecDepth 100000
theorem toNat_eq {z : Int} (h : 0 ≤ z) : z = ((z.toNat : Nat) : Int) := by omega
theorem len_app {α : Type} {xs ys : List α} {m n k : Nat} (h1 : xs.length ≤ m) (h2 : ys.length ≤ n) (h : m + n ≤ k) : (xs ++ ys).length ≤ k := by rw [List.length_append]; omega
theorem iPutsLatch (w0 : World) (bw b2 : Nat) (S : List Nat) (ts : List Latch) (v : Value) (xs : List UInt8) (X W : World) (hst : ST w0 bw W xs) (hX : KP S X W) (hbS : bw ∈ S) (h2 : ∀ V, KP S X V → V.heap[b2]? = some (.cells #[.pointer (some ⟨bw, 0, none⟩)] 60 (0, 0))) (hr : RS 4 RLatch w0 0 ts v) (hk : ts.length ≤ 4096) (hg : ∀ t ∈ ts, t.name.size ≤ 1000 ∧ 0 ≤ t.next ∧ t.next ≤ 1000000 ∧ 0 ≤ t.init ∧ t.init ≤ 1000000 ∧ 0 ≤ t.clock ∧ t.clock ≤ 1000000) (hl : xs.length ≤ 100000000) :
    Calls Try.prog 51 #[.pointer (some ⟨bw, 0, none⟩), v, .func (.func 52) #[] #[.pointer (some ⟨b2, 0, none⟩)]] W fun e W' => e = .returned (.tuple #[]) ∧ ST w0 bw W' (xs ++ (encN ts.length ++ ts.flatMap encLatch)) ∧ KP S X W' := by
  have hn := encN_ten (n := ts.length) (by omega)
  have hfl := flat_max encLatch 1200 ts (fun t ht => encLatch_len (hg t ht))
  have hm : ts.length * 1200 ≤ 4096 * 1200 := Nat.mul_le_mul_right _ hk
  have h := iPutListLatch w0 bw b2 ts v xs W (fun j V => ST w0 bw V (xs ++ encN ts.length ++ (ts.take j).flatMap encLatch) ∧ KP S X V) hst hr (by omega) (by rw [List.length_append]; omega)
    (fun V h1 h3 => ⟨by simpa using h1, hX.trans (h3.wide (by intro b hb; simp at hb; rw [hb]; exact hbS))⟩) (fun j V h => h.1.1) (fun j x V hx h => by
      have hm := hg x (List.mem_of_getElem? hx)
      have hle := flat_le2 encLatch ts (j + 1)
      have htk := flat_take2 encLatch ts j x hx
      rw [htk, List.length_append] at hle
      rw [show Value.int .i64 x.next = Value.int .i64 ((x.next.toNat : Nat) : Int) by rw [← toNat_eq (by omega)], show Value.int .i64 x.init = Value.int .i64 ((x.init.toNat : Nat) : Int) by rw [← toNat_eq (by omega)], show Value.int .i64 x.clock = Value.int .i64 ((x.clock.toNat : Nat) : Int) by rw [← toNat_eq (by omega)]]
      have hq := iPut1Latch w0 bw b2 x.name x.next.toNat x.init.toNat x.clock.toNat (xs ++ encN ts.length ++ (ts.take j).flatMap encLatch) (V.alloc (.cells #[.string x.name, .int .i64 ((x.next.toNat : Nat) : Int), .int .i64 ((x.init.toNat : Nat) : Int), .int .i64 ((x.clock.toNat : Nat) : Int)] 51)) (h.1.alloc _) (h2 _ (h.2.alloc _)) (by omega) (by omega) (by omega) (by omega) (by
        show (xs ++ encN ts.length ++ (ts.take j).flatMap encLatch ++ encLatch x).length ≤ _
        simp only [List.length_append]
        omega)
      refine hq.mono ?_
      rintro e V' ⟨rfl, hs1, hk1⟩
      refine ⟨rfl, ?_, (h.2.alloc _).trans (hk1.wide (by intro b hb; simp at hb; rw [hb]; exact hbS))⟩
      rw [htk, ← List.append_assoc]
      exact hs1)
  refine h.mono ?_
  rintro e W' ⟨rfl, hs1, hk1⟩
  rw [List.take_of_length_le (Nat.le_refl _), List.append_assoc] at hs1
  exact ⟨rfl, hs1, hk1⟩
theorem iPutsPin (w0 : World) (bw b2 : Nat) (S : List Nat) (ts : List Pin) (v : Value) (xs : List UInt8) (X W : World) (hst : ST w0 bw W xs) (hX : KP S X W) (hbS : bw ∈ S) (h2 : ∀ V, KP S X V → V.heap[b2]? = some (.cells #[.pointer (some ⟨bw, 0, none⟩)] 60 (0, 0))) (hr : RS 2 RPin w0 0 ts v) (hk : ts.length ≤ 4096) (hg : ∀ t ∈ ts, t.name.size ≤ 1000 ∧ 0 ≤ t.lit ∧ t.lit ≤ 1000000) (hl : xs.length ≤ 100000000) :
    Calls Try.prog 56 #[.pointer (some ⟨bw, 0, none⟩), v, .func (.func 47) #[] #[.pointer (some ⟨b2, 0, none⟩)]] W fun e W' => e = .returned (.tuple #[]) ∧ ST w0 bw W' (xs ++ (encN ts.length ++ ts.flatMap encPin)) ∧ KP S X W' := by
  have hn := encN_ten (n := ts.length) (by omega)
  have hfl := flat_max encPin 1200 ts (fun t ht => encPin_len (hg t ht))
  have hm : ts.length * 1200 ≤ 4096 * 1200 := Nat.mul_le_mul_right _ hk
  have h := iPutListPin w0 bw b2 ts v xs W (fun j V => ST w0 bw V (xs ++ encN ts.length ++ (ts.take j).flatMap encPin) ∧ KP S X V) hst hr (by omega) (by rw [List.length_append]; omega)
    (fun V h1 h3 => ⟨by simpa using h1, hX.trans (h3.wide (by intro b hb; simp at hb; rw [hb]; exact hbS))⟩) (fun j V h => h.1.1) (fun j x V hx h => by
      have hm := hg x (List.mem_of_getElem? hx)
      have hle := flat_le2 encPin ts (j + 1)
      have htk := flat_take2 encPin ts j x hx
      rw [htk, List.length_append] at hle
      rw [show Value.int .i64 x.lit = Value.int .i64 ((x.lit.toNat : Nat) : Int) by rw [← toNat_eq (by omega)]]
      have hq := iPut1Pin w0 bw b2 x.name x.lit.toNat (xs ++ encN ts.length ++ (ts.take j).flatMap encPin) (V.alloc (.cells #[.string x.name, .int .i64 ((x.lit.toNat : Nat) : Int)] 55)) (h.1.alloc _) (h2 _ (h.2.alloc _)) (by omega) (by omega) (by
        show (xs ++ encN ts.length ++ (ts.take j).flatMap encPin ++ encPin x).length ≤ _
        simp only [List.length_append]
        omega)
      refine hq.mono ?_
      rintro e V' ⟨rfl, hs1, hk1⟩
      refine ⟨rfl, ?_, (h.2.alloc _).trans (hk1.wide (by intro b hb; simp at hb; rw [hb]; exact hbS))⟩
      rw [htk, ← List.append_assoc]
      exact hs1)
  refine h.mono ?_
  rintro e W' ⟨rfl, hs1, hk1⟩
  rw [List.take_of_length_le (Nat.le_refl _), List.append_assoc] at hs1
  exact ⟨rfl, hs1, hk1⟩
theorem iPutsAnd (w0 : World) (bw b2 bvr fa : Nat) (ts : List AndG) (v : Value) (xs : List UInt8) (X W : World) (hst : ST w0 bw W xs) (hX : KP [bw, bvr] X W) (hbv : w0.heap.size ≤ bvr) (hvv : W.heap[bvr]? = some (.cells #[.int .i64 (fa : Int)] 3 (0, 0))) (h2 : ∀ V, KP [bw, bvr] X V → V.heap[b2]? = some (.cells #[.pointer (some ⟨bw, 0, none⟩)] 60 (0, 0))) (hr : RS 2 RAndG w0 0 ts v) (hk : ts.length ≤ 8192) (hfa : fa ≤ 10000) (hg : ∀ (k : Nat) x, ts[k]? = some x → 0 ≤ x.a ∧ x.a < 2 * ((fa + k : Nat) : Int) ∧ 0 ≤ x.b ∧ x.b < 2 * ((fa + k : Nat) : Int)) (hl : xs.length ≤ 100000000) :
    Calls Try.prog 54 #[.pointer (some ⟨bw, 0, none⟩), v, .func (.func 55) #[] #[.pointer (some ⟨b2, 0, none⟩), .pointer (some ⟨bvr, 0, none⟩)]] W fun e W' => e = .returned (.tuple #[]) ∧ ST w0 bw W' (xs ++ (encN ts.length ++ encAnds fa ts)) ∧ KP [bw, bvr] X W' := by
  have hn := encN_ten (n := ts.length) (by omega)
  have hfl := encAnds_len fa ts (by omega) hg
  have hm : ts.length * 20 ≤ 8192 * 20 := Nat.mul_le_mul_right _ hk
  have hne : bvr ≠ bw := by
    intro e
    subst e
    obtain ⟨_, _, v, h3, _⟩ := hst
    rw [hvv] at h3
    injection h3 with h3
    injection h3 with _ h3 _
    cases h3
  have h := iPutListAndG w0 bw b2 bvr ts v xs W (fun j V => ST w0 bw V (xs ++ encN ts.length ++ encAnds fa (ts.take j)) ∧ KP [bw, bvr] X V ∧ V.heap[bvr]? = some (.cells #[.int .i64 ((fa + j : Nat) : Int)] 3 (0, 0))) hst hr (by omega) (by rw [List.length_append]; omega)
    (fun V h1 h3 => ⟨by simpa [encAnds] using h1, hX.trans (h3.wide (by simp)), h3.keep bvr _ hvv (notB_cells (by decide)) (by simpa using hne)⟩) (fun j V h => h.1.1) (fun j x V hx h => by
      have hm := hg j x hx
      have hj : j < ts.length := (List.getElem?_eq_some_iff.1 hx).1
      have hle := encAnds_le ts fa (j + 1)
      have htk := encAnds_take ts fa j x hx
      rw [htk, List.length_append] at hle
      rw [show Value.int .i64 x.a = Value.int .i64 ((x.a.toNat : Nat) : Int) by rw [← toNat_eq (by omega)], show Value.int .i64 x.b = Value.int .i64 ((x.b.toNat : Nat) : Int) by rw [← toNat_eq (by omega)]]
      have hVs : bvr < V.heap.size := (Array.getElem?_eq_some_iff.1 h.2.2).1
      have hq := iPut1And w0 bw b2 bvr x.a.toNat x.b.toNat (fa + j) (xs ++ encN ts.length ++ encAnds fa (ts.take j)) (V.alloc (.cells #[.int .i64 ((x.a.toNat : Nat) : Int), .int .i64 ((x.b.toNat : Nat) : Int)] 53)) (h.1.alloc _) (h2 _ (h.2.1.alloc _)) (by rw [Below.heap_alloc _ _ _ hVs]; exact h.2.2) hbv (by omega) (by omega) (by omega) (by
        simp only [List.length_append]
        omega)
      refine hq.mono ?_
      rintro e V' ⟨rfl, hs1, hk1, hv1⟩
      refine ⟨rfl, ?_, (h.2.1.alloc _).trans hk1, hv1⟩
      rw [htk, ← List.append_assoc]
      exact hs1)
  refine h.mono ?_
  rintro e W' ⟨rfl, hs1, hk1, _⟩
  rw [List.take_of_length_le (Nat.le_refl _), List.append_assoc] at hs1
  exact ⟨rfl, hs1, hk1⟩
set_option maxHeartbeats 16000000 in
theorem iGraph (w0 : World) (bw : Nat) (a : Aig) (s0 s1 s2 s3 s4 s5 : Option Addr) (l0 l1 l2 l3 l4 l5 c0 c1 c2 c3 c4 c5 : Nat) (W : World) (hst : ST w0 bw W []) (h0 : RS 1 RStr w0 0 a.ins (.slice s0 l0 c0)) (h1 : RS 1 RStr w0 0 a.clocks (.slice s1 l1 c1)) (h2 : RS 4 RLatch w0 0 a.latches (.slice s2 l2 c2)) (h3 : RS 2 RAndG w0 0 a.ands (.slice s3 l3 c3)) (h4 : RS 2 RPin w0 0 a.outs (.slice s4 l4 c4)) (h5 : RS 2 RPin w0 0 a.checks (.slice s5 l5 c5)) (hg : Good a) :
    Calls Try.prog 25 #[.pointer (some ⟨bw, 0, none⟩), .agg #[.slice s0 l0 c0, .slice s1 l1 c1, .slice s2 l2 c2, .slice s3 l3 c3, .slice s4 l4 c4, .slice s5 l5 c5]] W fun e W' => e = .returned (.tuple #[]) ∧ ST w0 bw W' (bytesA a) := by
  have hbw : bw < W.heap.size := by
    obtain ⟨_, _, v, h3, _⟩ := hst
    exact (Array.getElem?_eq_some_iff.1 h3).1
  obtain ⟨X, hX⟩ : ∃ X, X = (W.alloc (.cells #[.pointer (some ⟨bw, 0, none⟩)] 60)).alloc (.cells #[.slice s0 l0 c0, .slice s1 l1 c1, .slice s2 l2 c2, .slice s3 l3 c3, .slice s4 l4 c4, .slice s5 l5 c5] 36) := ⟨_, rfl⟩
  have hXs : X.heap.size = W.heap.size + 1 + 1 := by rw [hX]; simp
  have HXS : Hid (ST w0 bw X []) := hide (by rw [hX]; exact (hst.alloc _).alloc _)
  have HKX : Hid (∀ S V, KP S X V → W.heap.size ∉ S → W.heap.size + 1 ∉ S → V.cell? ⟨W.heap.size, 0, none⟩ = some (.pointer (some ⟨bw, 0, none⟩)) ∧ V.cell? ⟨W.heap.size + 1, 0, none⟩ = some (.slice s0 l0 c0) ∧ V.cell? ⟨W.heap.size + 1, 1, none⟩ = some (.slice s1 l1 c1) ∧ V.cell? ⟨W.heap.size + 1, 2, none⟩ = some (.slice s2 l2 c2) ∧ V.cell? ⟨W.heap.size + 1, 3, none⟩ = some (.slice s3 l3 c3) ∧ V.cell? ⟨W.heap.size + 1, 4, none⟩ = some (.slice s4 l4 c4) ∧ V.cell? ⟨W.heap.size + 1, 5, none⟩ = some (.slice s5 l5 c5) ∧ V.heap[W.heap.size]? = some (.cells #[.pointer (some ⟨bw, 0, none⟩)] 60 (0, 0))) := hide (fun S V hV n1 n2 => by
    have x1 : X.heap[W.heap.size]? = some (.cells #[.pointer (some ⟨bw, 0, none⟩)] 60 (0, 0)) := by rw [hX, Below.heap_alloc _ _ _ (by simp)]; exact heap_alloc_new W _
    have x2 : X.heap[W.heap.size + 1]? = some (.cells #[.slice s0 l0 c0, .slice s1 l1 c1, .slice s2 l2 c2, .slice s3 l3 c3, .slice s4 l4 c4, .slice s5 l5 c5] 36 (0, 0)) := by
      rw [hX]
      have := heap_alloc_new (W.alloc (.cells #[.pointer (some ⟨bw, 0, none⟩)] 60)) (.cells #[.slice s0 l0 c0, .slice s1 l1 c1, .slice s2 l2 c2, .slice s3 l3 c3, .slice s4 l4 c4, .slice s5 l5 c5] 36)
      simpa using this
    have e1 := hV.keep _ _ x1 (notB_cells (by decide)) n1
    have e2 := hV.keep _ _ x2 (notB_cells (by decide)) n2
    exact ⟨cell_of e1 rfl, cell_of e2 rfl, cell_of e2 rfl, cell_of e2 rfl, cell_of e2 rfl, cell_of e2 rfl, cell_of e2 rfl, e1⟩)
  have HXW : Hid (w0.heap.size ≤ X.heap.size) := hide (unhide HXS).1.size
  have hn1 : W.heap.size ∉ [bw] := by simp; omega
  have hn2 : W.heap.size + 1 ∉ [bw] := by simp; omega
  have hn3 : ∀ bvr, X.heap.size ≤ bvr → W.heap.size ∉ [bw, bvr] ∧ W.heap.size + 1 ∉ [bw, bvr] := fun bvr hb => by simp; omega
  obtain ⟨p0, p1, p2, p3, p4, p5⟩ := parts_len hg
  have hf := hg.first
  have hl0 : l0 = a.ins.length := by obtain ⟨_, _, hv, _⟩ := h0; injection hv
  have hl2 : l2 = a.latches.length := by obtain ⟨_, _, hv, _⟩ := h2; injection hv
  have hfd : 1 + l0 + l2 = firstA a := by unfold firstA; omega
  have C1 := hide (show Calls Try.prog 50 #[.pointer (some ⟨bw, 0, none⟩), .slice s0 l0 c0] X _ from iNameList w0 bw a.ins _ [] X (unhide HXS) h0 (fun s hs => by have := hg.i0 s hs; omega) (by have := hg.n0; omega) (by simpa using Nat.le_trans p0 (by decide)))
  have C2 := hide (fun (V : World) (h : ST w0 bw V ([] ++ encL a.ins)) => (show Calls Try.prog 50 #[.pointer (some ⟨bw, 0, none⟩), .slice s1 l1 c1] V _ from iNameList w0 bw a.clocks _ ([] ++ encL a.ins) V h h1 (fun s hs => by have := hg.i1 s hs; omega) (by have := hg.n1; omega) (by simp only [List.length_append, List.length_nil]; omega)))
  have C3 := hide (fun (V : World) (h : ST w0 bw V ([] ++ encL a.ins ++ encL a.clocks)) (hk : KP [bw] X V) => iPutsLatch w0 bw W.heap.size [bw] a.latches _ ([] ++ encL a.ins ++ encL a.clocks) X V h hk (by simp) (fun U hU => ((unhide HKX [bw] U hU hn1 hn2).2.2.2.2.2.2.2)) h2 (by have := hg.n2; omega) hg.i2 (by simp only [List.length_append, List.length_nil]; omega))
  have C4 := hide (fun (V : World) => iFirst s0 s2 l0 l2 c0 c2 (.slice s1 l1 c1) (.slice s3 l3 c3) (.slice s4 l4 c4) (.slice s5 l5 c5) V (by have := hg.n0; omega) (by have := hg.n2; omega))
  rw [hfd] at C4
  have C5 := hide (fun (bvr : Nat) (hbv : X.heap.size ≤ bvr) (V : World) (h : ST w0 bw V ([] ++ encL a.ins ++ encL a.clocks ++ (encN a.latches.length ++ a.latches.flatMap encLatch))) (hk : KP [bw, bvr] X V) (hv : V.heap[bvr]? = some (.cells #[.int .i64 (firstA a : Int)] 3 (0, 0))) => iPutsAnd w0 bw W.heap.size bvr (firstA a) a.ands _ ([] ++ encL a.ins ++ encL a.clocks ++ (encN a.latches.length ++ a.latches.flatMap encLatch)) X V h hk (Nat.le_trans (unhide HXW) hbv) hv (fun U hU => (unhide HKX [bw, bvr] U hU (hn3 bvr hbv).1 (hn3 bvr hbv).2).2.2.2.2.2.2.2) h3 (by have := hg.n3; omega) (by omega) hg.i3 (by simp only [List.length_append, List.length_nil] at *; omega))
  have C6 := hide (fun (bvr : Nat) (hbv : X.heap.size ≤ bvr) (V : World) (h : ST w0 bw V ([] ++ encL a.ins ++ encL a.clocks ++ (encN a.latches.length ++ a.latches.flatMap encLatch) ++ (encN a.ands.length ++ encAnds (firstA a) a.ands))) (hk : KP [bw, bvr] X V) => iPutsPin w0 bw W.heap.size [bw, bvr] a.outs _ ([] ++ encL a.ins ++ encL a.clocks ++ (encN a.latches.length ++ a.latches.flatMap encLatch) ++ (encN a.ands.length ++ encAnds (firstA a) a.ands)) X V h hk (by simp) (fun U hU => (unhide HKX [bw, bvr] U hU (hn3 bvr hbv).1 (hn3 bvr hbv).2).2.2.2.2.2.2.2) h4 (by have := hg.n4; omega) hg.i4 (by simp only [List.length_append, List.length_nil] at *; omega))
  have C7 := hide (fun (bvr : Nat) (hbv : X.heap.size ≤ bvr) (V : World) (h : ST w0 bw V ([] ++ encL a.ins ++ encL a.clocks ++ (encN a.latches.length ++ a.latches.flatMap encLatch) ++ (encN a.ands.length ++ encAnds (firstA a) a.ands) ++ (encN a.outs.length ++ a.outs.flatMap encPin))) (hk : KP [bw, bvr] X V) => iPutsPin w0 bw W.heap.size [bw, bvr] a.checks _ ([] ++ encL a.ins ++ encL a.clocks ++ (encN a.latches.length ++ a.latches.flatMap encLatch) ++ (encN a.ands.length ++ encAnds (firstA a) a.ands) ++ (encN a.outs.length ++ a.outs.flatMap encPin)) X V h hk (by simp) (fun U hU => (unhide HKX [bw, bvr] U hU (hn3 bvr hbv).1 (hn3 bvr hbv).2).2.2.2.2.2.2.2) h5 (by have := hg.n5; omega) hg.i5 (by simp only [List.length_append, List.length_nil] at *; omega))
  have HEND : Hid (∀ V, ST w0 bw V ([] ++ encL a.ins ++ encL a.clocks ++ (encN a.latches.length ++ a.latches.flatMap encLatch) ++ (encN a.ands.length ++ encAnds (firstA a) a.ands) ++ (encN a.outs.length ++ a.outs.flatMap encPin) ++ (encN a.checks.length ++ a.checks.flatMap encPin)) → ST w0 bw V (bytesA a)) := hide (fun V h => by unfold bytesA; simpa [List.append_assoc] using h)
  have HN12 := hide (And.intro hn1 hn2)
  have HN3 := hide hn3
  have HX := hide hX
  have HGS := hide (show X.heap.size ≤ X.heap.size from Nat.le_refl _)
  have hmf : ∀ (fn : Fn) (first cap : Array Value) (w : World), (Instr.makeFunc fn first cap).run Try.prog w = .ok (.func fn first cap) w := fun _ _ _ _ => rfl
  clear hst h0 h1 h2 h3 h4 h5 hg hX hXs hn1 hn2 hn3 p0 p1 p2 p3 p4 p5 hf hl0 hl2 hfd hbw
  generalize hfa : firstA a = FA at *
  clear hfa
  go_enter Try.func25, Try.ntmps25
  go_wp2_with fail
  rw [← unhide HX]
  refine (unhide C1).mono ?_
  rintro e W1 ⟨rfl, hs1, hk1⟩
  have HS1 := hide hs1
  have HK1 := hide hk1
  clear hs1 hk1
  obtain ⟨q0, r0, r1, r2, r3, r4, r5, _⟩ := unhide HKX [bw] W1 (unhide HK1) (unhide HN12).1 (unhide HN12).2
  go_wp2_with fail
  refine (unhide C2 W1 (unhide HS1)).mono ?_
  rintro e W2 ⟨rfl, hs1, hk1⟩
  have HS2 := hide hs1
  have HK2 := hide ((unhide HK1).trans hk1)
  clear hs1 hk1 q0 r0 r1 r2 r3 r4 r5
  obtain ⟨q0, r0, r1, r2, r3, r4, r5, _⟩ := unhide HKX [bw] W2 (unhide HK2) (unhide HN12).1 (unhide HN12).2
  go_wp2_with fail
  refine (unhide C3 W2 (unhide HS2) (unhide HK2)).mono ?_
  rintro e W3 ⟨rfl, hs1, hk1⟩
  have HS3 := hide hs1
  have HK3 := hide hk1
  clear hs1 hk1 q0 r0 r1 r2 r3 r4 r5
  obtain ⟨q0, r0, r1, r2, r3, r4, r5, _⟩ := unhide HKX [bw] W3 (unhide HK3) (unhide HN12).1 (unhide HN12).2
  go_wp2_with fail
  refine (unhide C4 W3).mono ?_
  rintro e W4 ⟨rfl, hb4⟩
  have HS4 := hide (((unhide HS3).later hb4).alloc (.cells #[.int .i64 (FA : Int)] 3))
  have HK4 := hide (((unhide HK3).trans (KP.of_below hb4)).alloc (.cells #[.int .i64 (FA : Int)] 3))
  have HG4 := hide ((unhide HK3).trans (KP.of_below (S := [bw]) hb4)).size
  clear hb4 q0 r0 r1 r2 r3 r4 r5
  obtain ⟨q0, r0, r1, r2, r3, r4, r5, _⟩ := unhide HKX [bw] _ (unhide HK4) (unhide HN12).1 (unhide HN12).2
  go_wp2_with fail
  refine (unhide C5 W4.heap.size (unhide HG4) _ (unhide HS4) ((unhide HK4).wide (by simp)) (heap_alloc_new W4 _)).mono ?_
  rintro e W5 ⟨rfl, hs1, hk1⟩
  have HS5 := hide hs1
  have HK5 := hide hk1
  clear hs1 hk1 q0 r0 r1 r2 r3 r4 r5
  obtain ⟨q0, r0, r1, r2, r3, r4, r5, _⟩ := unhide HKX [bw, W4.heap.size] W5 (unhide HK5) (unhide HN3 _ (unhide HG4)).1 (unhide HN3 _ (unhide HG4)).2
  go_wp2_with fail
  refine (unhide C6 W4.heap.size (unhide HG4) W5 (unhide HS5) (unhide HK5)).mono ?_
  rintro e W6 ⟨rfl, hs1, hk1⟩
  have HS6 := hide hs1
  have HK6 := hide hk1
  clear hs1 hk1 q0 r0 r1 r2 r3 r4 r5
  obtain ⟨q0, r0, r1, r2, r3, r4, r5, _⟩ := unhide HKX [bw, W4.heap.size] W6 (unhide HK6) (unhide HN3 _ (unhide HG4)).1 (unhide HN3 _ (unhide HG4)).2
  go_wp2_with fail
  refine (unhide C7 W4.heap.size (unhide HG4) W6 (unhide HS6) (unhide HK6)).mono ?_
  rintro e W7 ⟨rfl, hs1, hk1⟩
  have HS7 := hide (unhide HEND _ hs1)
  clear hs1 hk1 q0 r0 r1 r2 r3 r4 r5
  go_wp2_with fail
  exact bodyPost_end (v := .tuple #[]) (by simp [results, Try.results25, go_sem]) rfl ⟨rfl, unhide HS7⟩
end Go.Proofs.Ytaamibonpmijaab
