/- The bits of a word, counted modulo two, by the steps of a well-known count. -/
namespace Vb
/-- f 0 xor .. xor f (n - 1). -/
def xr (f : Nat → Bool) : Nat → Bool
  | 0 => false
  | n + 1 => xr f n ^^ f n
theorem xr_pair (f g : Nat → Bool) (n : Nat) (h : ∀ i, i < n → g i = (f (2 * i) ^^ f (2 * i + 1))) : xr f (2 * n) = xr g n := by
  induction n with
  | zero => rfl
  | succ n ih =>
    rw [show 2 * (n + 1) = 2 * n + 1 + 1 by omega, xr, xr, xr, ih (fun i hi => h i (by omega)), h n (by omega), Bool.xor_assoc]
theorem xr_congr (f g : Nat → Bool) (n : Nat) (h : ∀ i, i < n → f i = g i) : xr f n = xr g n := by
  induction n with
  | zero => rfl
  | succ n ih => rw [xr, xr, ih (fun i hi => h i (by omega)), h n (by omega)]
/-- Where both have 0 at the place below, no carry comes. -/
theorem add_bit (a b : BitVec 64) (n : Nat) (hn : n < 64) (h : n = 0 ∨ (a.getLsbD (n - 1) = false ∧ b.getLsbD (n - 1) = false)) : (a + b).getLsbD n = (a.getLsbD n ^^ b.getLsbD n) := by
  rw [BitVec.getLsbD_add hn]
  rcases h with rfl | ⟨h1, h2⟩
  · simp [BitVec.carry_zero]
  · cases n with
    | zero => simp [BitVec.carry_zero]
    | succ n =>
      simp only [Nat.add_sub_cancel] at h1 h2
      rw [BitVec.carry_succ, h1, h2]
      simp [Bool.atLeastTwo]
def m1 : BitVec 64 := 6148914691236517205#64
def m2 : BitVec 64 := 3689348814741910323#64
def m4 : BitVec 64 := 1085102592571150095#64
theorem m1_bit (n : Nat) (hn : n < 64) : m1.getLsbD n = decide (n % 2 = 0) := by
  have : ∀ n : Fin 64, m1.getLsbD n.val = decide (n.val % 2 = 0) := by decide
  exact this ⟨n, hn⟩
theorem m2_bit (n : Nat) (hn : n < 64) : m2.getLsbD n = decide (n % 4 < 2) := by
  have : ∀ n : Fin 64, m2.getLsbD n.val = decide (n.val % 4 < 2) := by decide
  exact this ⟨n, hn⟩
theorem m4_bit (n : Nat) (hn : n < 64) : m4.getLsbD n = decide (n % 8 < 4) := by
  have : ∀ n : Fin 64, m4.getLsbD n.val = decide (n.val % 8 < 4) := by decide
  exact this ⟨n, hn⟩
def p1 (x : BitVec 64) : BitVec 64 := (x >>> 1 &&& m1) + (x &&& m1)
def p2 (x : BitVec 64) : BitVec 64 := (x >>> 2 &&& m2) + (x &&& m2)
def p3 (x : BitVec 64) : BitVec 64 := (x >>> 4 + x) &&& m4
def p4 (x : BitVec 64) : BitVec 64 := x + x >>> 8
def p5 (x : BitVec 64) : BitVec 64 := x + x >>> 16
def p6 (x : BitVec 64) : BitVec 64 := x + x >>> 32
theorem out64 (x : BitVec 64) (n : Nat) (h : 64 ≤ n) : x.getLsbD n = false := BitVec.getLsbD_of_ge _ _ h
theorem and_false1 (x : BitVec 64) (m : BitVec 64) (n : Nat) (h : m.getLsbD n = false) : (x &&& m).getLsbD n = false := by rw [BitVec.getLsbD_and, h, Bool.and_false]
theorem p1_bit (x : BitVec 64) (i : Nat) (hi : i < 32) : (p1 x).getLsbD (2 * i) = (x.getLsbD (2 * i) ^^ x.getLsbD (2 * i + 1)) := by
  unfold p1
  rw [add_bit _ _ _ (by omega) (by
    by_cases h : 2 * i = 0
    · exact .inl h
    · right
      have hm : m1.getLsbD (2 * i - 1) = false := by rw [m1_bit _ (by omega)]; simp; omega
      exact ⟨and_false1 _ _ _ hm, and_false1 _ _ _ hm⟩)]
  rw [BitVec.getLsbD_and, BitVec.getLsbD_and, BitVec.getLsbD_ushiftRight, m1_bit _ (by omega)]
  simp [Nat.add_comm, Bool.xor_comm]
theorem p2_bit (x : BitVec 64) (i : Nat) (hi : i < 16) : (p2 x).getLsbD (4 * i) = (x.getLsbD (4 * i) ^^ x.getLsbD (4 * i + 2)) := by
  unfold p2
  rw [add_bit _ _ _ (by omega) (by
    by_cases h : 4 * i = 0
    · exact .inl h
    · right
      have hm : m2.getLsbD (4 * i - 1) = false := by rw [m2_bit _ (by omega)]; simp; omega
      exact ⟨and_false1 _ _ _ hm, and_false1 _ _ _ hm⟩)]
  rw [BitVec.getLsbD_and, BitVec.getLsbD_and, BitVec.getLsbD_ushiftRight, m2_bit _ (by omega)]
  simp [Nat.add_comm, Bool.xor_comm]
theorem p2_top (x : BitVec 64) (n : Nat) (hn : n % 4 = 3) : (p2 x).getLsbD n = false := by
  by_cases h64 : n < 64
  · unfold p2
    have hm : m2.getLsbD n = false := by rw [m2_bit _ h64]; simp; omega
    have hm' : m2.getLsbD (n - 1) = false := by rw [m2_bit _ (by omega)]; simp; omega
    rw [add_bit _ _ _ h64 (.inr ⟨and_false1 _ _ _ hm', and_false1 _ _ _ hm'⟩), and_false1 _ _ _ hm, and_false1 _ _ _ hm]; rfl
  · exact out64 _ _ (by omega)
theorem p3_bit (x : BitVec 64) (i : Nat) (hi : i < 8) (ht : ∀ n, n % 4 = 3 → x.getLsbD n = false) : (p3 x).getLsbD (8 * i) = (x.getLsbD (8 * i) ^^ x.getLsbD (8 * i + 4)) := by
  unfold p3
  rw [BitVec.getLsbD_and, m4_bit _ (by omega), add_bit _ _ _ (by omega) (by
    by_cases h : 8 * i = 0
    · exact .inl h
    · right
      exact ⟨by rw [BitVec.getLsbD_ushiftRight]; exact ht _ (by omega), ht _ (by omega)⟩)]
  rw [BitVec.getLsbD_ushiftRight]
  simp [Nat.add_comm, Bool.xor_comm]
theorem p3_top (x : BitVec 64) (n : Nat) (hn : 4 ≤ n % 8) : (p3 x).getLsbD n = false := by
  by_cases h64 : n < 64
  · unfold p3
    exact and_false1 _ _ _ (by rw [m4_bit _ h64]; simp; omega)
  · exact out64 _ _ (by omega)
theorem p4_bit (x : BitVec 64) (i : Nat) (hi : i < 4) (ht : ∀ n, 4 ≤ n % 8 → x.getLsbD n = false) : (p4 x).getLsbD (16 * i) = (x.getLsbD (16 * i) ^^ x.getLsbD (16 * i + 8)) := by
  unfold p4
  rw [add_bit _ _ _ (by omega) (by
    by_cases h : 16 * i = 0
    · exact .inl h
    · right
      exact ⟨ht _ (by omega), by rw [BitVec.getLsbD_ushiftRight]; exact ht _ (by omega)⟩)]
  rw [BitVec.getLsbD_ushiftRight, Nat.add_comm 8]
theorem p4_top (x : BitVec 64) (n : Nat) (hn : n % 8 = 7) (ht : ∀ n, 4 ≤ n % 8 → x.getLsbD n = false) : (p4 x).getLsbD n = false := by
  by_cases h64 : n < 64
  · unfold p4
    rw [add_bit _ _ _ h64 (.inr ⟨ht _ (by omega), by rw [BitVec.getLsbD_ushiftRight]; exact ht _ (by omega)⟩), BitVec.getLsbD_ushiftRight, ht _ (by omega), ht _ (by omega)]; rfl
  · exact out64 _ _ (by omega)
theorem p5_bit (x : BitVec 64) (i : Nat) (hi : i < 2) (ht : ∀ n, n % 8 = 7 → x.getLsbD n = false) : (p5 x).getLsbD (32 * i) = (x.getLsbD (32 * i) ^^ x.getLsbD (32 * i + 16)) := by
  unfold p5
  rw [add_bit _ _ _ (by omega) (by
    by_cases h : 32 * i = 0
    · exact .inl h
    · right
      exact ⟨ht _ (by omega), by rw [BitVec.getLsbD_ushiftRight]; exact ht _ (by omega)⟩)]
  rw [BitVec.getLsbD_ushiftRight, Nat.add_comm 16]
theorem p6_bit (x : BitVec 64) : (p6 x).getLsbD 0 = (x.getLsbD 0 ^^ x.getLsbD 32) := by
  unfold p6
  rw [add_bit _ _ _ (by omega) (.inl rfl), BitVec.getLsbD_ushiftRight]
/-- The count's lowest bit tells whether the ones are odd. -/
theorem count_odd (x : BitVec 64) : (p6 (p5 (p4 (p3 (p2 (p1 x)))))).getLsbD 0 = xr (fun i => x.getLsbD i) 64 := by
  have t2 := fun n h => p2_top (p1 x) n h
  have t3 := fun n h => p3_top (p2 (p1 x)) n h
  have t4 := fun n h => p4_top (p3 (p2 (p1 x))) n h t3
  have e1 := xr_pair (fun i => x.getLsbD i) (fun i => (p1 x).getLsbD (2 * i)) 32 (fun i hi => p1_bit x i hi)
  have e2 := xr_pair (fun i => (p1 x).getLsbD (2 * i)) (fun i => (p2 (p1 x)).getLsbD (4 * i)) 16 (fun i hi => by
    show _ = ((p1 x).getLsbD (2 * (2 * i)) ^^ (p1 x).getLsbD (2 * (2 * i + 1)))
    rw [p2_bit _ i hi, show 2 * (2 * i) = 4 * i by omega, show 2 * (2 * i + 1) = 4 * i + 2 by omega])
  have e3 := xr_pair (fun i => (p2 (p1 x)).getLsbD (4 * i)) (fun i => (p3 (p2 (p1 x))).getLsbD (8 * i)) 8 (fun i hi => by
    show _ = ((p2 (p1 x)).getLsbD (4 * (2 * i)) ^^ (p2 (p1 x)).getLsbD (4 * (2 * i + 1)))
    rw [p3_bit _ i hi t2, show 4 * (2 * i) = 8 * i by omega, show 4 * (2 * i + 1) = 8 * i + 4 by omega])
  have e4 := xr_pair (fun i => (p3 (p2 (p1 x))).getLsbD (8 * i)) (fun i => (p4 (p3 (p2 (p1 x)))).getLsbD (16 * i)) 4 (fun i hi => by
    show _ = ((p3 (p2 (p1 x))).getLsbD (8 * (2 * i)) ^^ (p3 (p2 (p1 x))).getLsbD (8 * (2 * i + 1)))
    rw [p4_bit _ i hi t3, show 8 * (2 * i) = 16 * i by omega, show 8 * (2 * i + 1) = 16 * i + 8 by omega])
  have e5 := xr_pair (fun i => (p4 (p3 (p2 (p1 x)))).getLsbD (16 * i)) (fun i => (p5 (p4 (p3 (p2 (p1 x))))).getLsbD (32 * i)) 2 (fun i hi => by
    show _ = ((p4 (p3 (p2 (p1 x)))).getLsbD (16 * (2 * i)) ^^ (p4 (p3 (p2 (p1 x)))).getLsbD (16 * (2 * i + 1)))
    rw [p5_bit _ i hi t4, show 16 * (2 * i) = 32 * i by omega, show 16 * (2 * i + 1) = 32 * i + 16 by omega])
  have e6 : xr (fun i => (p5 (p4 (p3 (p2 (p1 x))))).getLsbD (32 * i)) 2 = ((p5 (p4 (p3 (p2 (p1 x))))).getLsbD 0 ^^ (p5 (p4 (p3 (p2 (p1 x))))).getLsbD 32) := by simp [xr]
  rw [p6_bit]
  exact (e1.trans (e2.trans (e3.trans (e4.trans (e5.trans e6))))).symm
end Vb
