/- What the program's truth and twoOf answer. -/
import Derived.Test.YtmbllgblbdfobaaI3
import Derived.Test.YtmbllgblbdfobaaBox
import Derived.Deep.RegionWith
namespace Go.Proofs.Ytmbllgblbdfobaa
open Go.RowKit
attribute [local go_sem] U_and U_or U_xor U_andNot U_shl U_shr U_shl1 U_or1 U_and1 U_toNat U_nonneg U_low U_beq U_bne
/-- The letter of a vector's truth. -/
def tru (n : Nat) (k h : BitVec 64) : UInt8 := if k &&& h ≠ 0#64 then 49 else if k = Vb.ones n then 48 else 120
theorem U_ne0 (x : BitVec 64) : (U x != 0) = (x != 0#64) := U_bne x 0#64
set_option maxHeartbeats 400000 in
theorem iTruth (n : Nat) (k h : BitVec 64) (hn : n ≤ 64) (w : World) :
    Calls Try.prog 106 #[V n k h] w fun e w' => e = .returned (V 1 (Vb.kn [tru n k h]) (Vb.wh [tru n k h])) ∧ Below w.heap.size w w' := by
  by_cases h1 : k &&& h = 0#64
  · have hu : (U (k &&& h) != 0) = false := by rw [h1]; rfl
    by_cases h2 : k = Vb.ones n
    · rw [show tru n k h = 48 by unfold tru; rw [if_neg (by simp [h1]), if_pos h2], show Vb.kn [48] = 1#64 from rfl, show Vb.wh [48] = 0#64 from rfl]
      have hk : (k == Vb.ones n) = true := by simp [h2]
      unfold V
      have HK := hide hk
      clear h1 h2 hk
      go_enter Try.func106, Try.ntmps106
      go_wp2_with fail
      refine (iOnes _ _ _ _).mono ?_
      rintro e w1 ⟨rfl, rfl⟩
      go_wp2_with fail
      refine (iIsKnown _ _ _ hn _).mono ?_
      rw [unhide HK]
      rintro e w2 ⟨rfl, hb2⟩
      have R2 : RB (w.heap.size + 1) w2 := by refine RB_later hb2 ⟨.int .i64 0, .int .u64 0, .int .u64 0, ?_, ?_, ?_, ?_, ?_, ?_⟩ <;> go_simp
      go_wp2_with fail
      refine (iTruthVec false _).mono ?_
      rintro e w3 ⟨rfl, hb3⟩
      obtain ⟨x0, y0, z0, c0, c1, c2, f0, f1, f2⟩ := RB_later hb3 R2
      unfold V
      go_wp2
      refine bodyPost_ret (v := V 1 1#64 0#64) (by simp [results, Try.results106, go_sem, V, c0, c1, c2]) rfl ⟨rfl, ?_⟩
      repeat first | exact brf _ | refine bdr ?_ | refine bst ?_ (by first | exact Nat.le_refl _ | (simp; done) | (simp; omega)) _ | refine btr ?_ hb3 | refine btr ?_ hb2 | refine bal ?_ _
    · rw [show tru n k h = 120 by unfold tru; rw [if_neg (by simp [h1]), if_neg h2], show Vb.kn [120] = 0#64 from rfl, show Vb.wh [120] = 0#64 from rfl]
      have hk : (k == Vb.ones n) = false := by simp [h2]
      unfold V
      have HK := hide hk
      clear h1 h2 hk
      go_enter Try.func106, Try.ntmps106
      go_wp2_with fail
      refine (iOnes _ _ _ _).mono ?_
      rintro e w1 ⟨rfl, rfl⟩
      go_wp2_with fail
      refine (iIsKnown _ _ _ hn _).mono ?_
      rw [unhide HK]
      rintro e w2 ⟨rfl, hb2⟩
      have R2 : RB (w.heap.size + 1) w2 := by refine RB_later hb2 ⟨.int .i64 0, .int .u64 0, .int .u64 0, ?_, ?_, ?_, ?_, ?_, ?_⟩ <;> go_simp
      go_wp2_with fail
      refine (iUnknown 1 _).mono ?_
      rintro e w3 ⟨rfl, hb3⟩
      obtain ⟨x0, y0, z0, c0, c1, c2, f0, f1, f2⟩ := RB_later hb3 R2
      unfold V
      go_wp2
      refine bodyPost_ret (v := V 1 0#64 0#64) (by simp [results, Try.results106, go_sem, V, c0, c1, c2]) rfl ⟨rfl, ?_⟩
      repeat first | exact brf _ | refine bdr ?_ | refine bst ?_ (by first | exact Nat.le_refl _ | (simp; done) | (simp; omega)) _ | refine btr ?_ hb3 | refine btr ?_ hb2 | refine bal ?_ _
  · have hu : (U (k &&& h) != 0) = true := by rw [U_ne0]; simp [h1]
    rw [show tru n k h = 49 by unfold tru; rw [if_pos h1], show Vb.kn [49] = 1#64 from rfl, show Vb.wh [49] = 1#64 from rfl]
    unfold V
    clear h1
    go_enter Try.func106, Try.ntmps106
    go_wp2_with fail
    refine (iOnes _ _ _ _).mono ?_
    rintro e w1 ⟨rfl, rfl⟩
    have R2 : RB (w.heap.size + 1) (((w.alloc (.cells #[.int .i64 n, .int .u64 (U (k)), .int .u64 (U (h))] 60)).alloc (.cells #[.int .i64 0, .int .u64 0, .int .u64 0] 60)).alloc (.cells #[.int .i64 n, .int .u64 (U (k)), .int .u64 (U (h))] 60)) := by refine ⟨.int .i64 0, .int .u64 0, .int .u64 0, ?_, ?_, ?_, ?_, ?_, ?_⟩ <;> go_simp
    go_wp2_with fail
    refine (iTruthVec true _).mono ?_
    rintro e w3 ⟨rfl, hb3⟩
    obtain ⟨x0, y0, z0, c0, c1, c2, f0, f1, f2⟩ := RB_later hb3 R2
    unfold V
    go_wp2
    refine bodyPost_ret (v := V 1 1#64 1#64) (by simp [results, Try.results106, go_sem, V, c0, c1, c2]) rfl ⟨rfl, ?_⟩
    repeat first | exact brf _ | refine bdr ?_ | refine bst ?_ (by first | exact Nat.le_refl _ | (simp; done) | (simp; omega)) _ | refine btr ?_ hb3 | refine bal ?_ _
set_option maxHeartbeats 400000 in
theorem iTwoOf (a b : ByteArray) (w : World) (ha : a.size ≤ maxLen) (hb : b.size ≤ maxLen) (va : Vb.okV (L a) = true) (vb : Vb.okV (L b) = true) :
    Calls Try.prog 51 #[.string a, .string b] w fun e w' => e = .returned (.tuple #[V a.size (Vb.kn (L a)) (Vb.wh (L a)), V b.size (Vb.kn (L b)) (Vb.wh (L b)), .bool true]) ∧ Below w.heap.size w w' := by
  generalize hK : Vb.kn (L a) = K
  generalize hH : Vb.wh (L a) = H
  generalize hP : Vb.kn (L b) = P
  generalize hQ : Vb.wh (L b) = Q
  have HK := hide hK
  have HH := hide hH
  have HP := hide hP
  have HQ := hide hQ
  clear hK hH hP hQ
  have VA := hide va
  have VBB := hide vb
  clear va vb
  go_enter Try.func51, Try.ntmps51
  go_wp2_with fail
  refine (iVecOf a _ ha (unhide VA)).mono ?_
  rintro e w1 ⟨rfl, hb1⟩
  have hz1 : w.heap.size + 1 < w1.heap.size := by have := hb1.size; simp at this; omega
  have Ra : RB w.heap.size w1 := by refine RB_later hb1 ⟨.int .i64 0, .int .u64 0, .int .u64 0, ?_, ?_, ?_, ?_, ?_, ?_⟩ <;> go_simp
  have Rb : RB (w.heap.size + 1) w1 := by refine RB_later hb1 ⟨.int .i64 0, .int .u64 0, .int .u64 0, ?_, ?_, ?_, ?_, ?_, ?_⟩ <;> go_simp
  rw [unhide HK, unhide HH]
  unfold V
  go_wp2_with fail
  refine (iVecOf b _ hb (unhide VBB)).mono ?_
  rintro e w2 ⟨rfl, hb2⟩
  rw [unhide HP, unhide HQ]
  have hz2 : w1.heap.size < w2.heap.size := by have := hb2.size; simp at this; omega
  have hz3 : w.heap.size < w2.heap.size := by omega
  have hz4 : w.heap.size + 1 < w2.heap.size := by omega
  obtain ⟨u0, u1, u2⟩ : VB w1.heap.size a.size K H w2 := VB_later hb2 (VB_new w1)
  obtain ⟨x0, y0, z0, c0, c1, c2, f0, f1, f2⟩ := RB_later hb2 (RB_alloc Ra (.cells #[.int .i64 a.size, .int .u64 (U K), .int .u64 (U H)] 60))
  obtain ⟨x1, y1, z1, d0, d1, d2, g0, g1, g2⟩ := RB_later hb2 (RB_alloc Rb (.cells #[.int .i64 a.size, .int .u64 (U K), .int .u64 (U H)] 60))
  clear Ra Rb
  have B2 : Below w.heap.size w w2 := btr (bal (btr (bal (bal (brf w) _) _) hb1) _) hb2
  unfold V
  go_wp2
  go_region
  go_wp2
  refine bodyPost_ret (v := .tuple #[V a.size K H, V b.size P Q, .bool true]) (by simp [results, Try.results51, go_sem, V, c0, c1, c2, d0, d1, d2, hz3, hz4]) rfl ⟨rfl, ?_⟩
  exact bdr (bal (bst (bst (bst (bst (bst (bst B2 (Nat.le_refl _) _) (Nat.le_refl _) _) (Nat.le_refl _) _) (Nat.le_succ _) _) (Nat.le_succ _) _) (Nat.le_succ _) _) _)
theorem iVecAny (s : ByteArray) (w : World) (hs : s.size ≤ maxLen) :
    Calls Try.prog 48 #[.string s] w fun e w' => (∃ n k h, e = .returned (.tuple #[V n k h, .bool (Vb.okV (L s))])) ∧ Below w.heap.size w w' := by
  cases hv : Vb.okV (L s)
  · exact (iVecOf_no s w hs hv).mono fun _ _ ⟨h, h'⟩ => ⟨⟨_, _, _, h⟩, h'⟩
  · exact (iVecOf s w hs hv).mono fun _ _ ⟨h, h'⟩ => ⟨⟨_, _, _, h⟩, h'⟩
set_option maxHeartbeats 400000 in
theorem iTwoOf_no (a b : ByteArray) (w : World) (ha : a.size ≤ maxLen) (hb : b.size ≤ maxLen) (hv : (Vb.okV (L a) && Vb.okV (L b)) = false) :
    Calls Try.prog 51 #[.string a, .string b] w fun e w' => (∃ n k h m p q, e = .returned (.tuple #[V n k h, V m p q, .bool false])) ∧ Below w.heap.size w w' := by
  generalize hx : Vb.okV (L a) = x at hv
  generalize hy : Vb.okV (L b) = y at hv
  have HX := hide hx
  have HY := hide hy
  clear hx hy
  go_enter Try.func51, Try.ntmps51
  go_wp2_with fail
  refine (iVecAny a _ ha).mono ?_
  rw [unhide HX]
  rintro e w1 ⟨⟨na, K, H, rfl⟩, hb1⟩
  have hz1 : w.heap.size + 1 < w1.heap.size := by have := hb1.size; simp at this; omega
  have Ra : RB w.heap.size w1 := by refine RB_later hb1 ⟨.int .i64 0, .int .u64 0, .int .u64 0, ?_, ?_, ?_, ?_, ?_, ?_⟩ <;> go_simp
  have Rb : RB (w.heap.size + 1) w1 := by refine RB_later hb1 ⟨.int .i64 0, .int .u64 0, .int .u64 0, ?_, ?_, ?_, ?_, ?_, ?_⟩ <;> go_simp
  unfold V
  go_wp2_with fail
  refine (iVecAny b _ hb).mono ?_
  rw [unhide HY]
  rintro e w2 ⟨⟨nb, P, Q, rfl⟩, hb2⟩
  have hz2 : w1.heap.size < w2.heap.size := by have := hb2.size; simp at this; omega
  have hz3 : w.heap.size < w2.heap.size := by omega
  have hz4 : w.heap.size + 1 < w2.heap.size := by omega
  obtain ⟨u0, u1, u2⟩ : VB w1.heap.size na K H w2 := VB_later hb2 (VB_new w1)
  obtain ⟨x0, y0, z0, c0, c1, c2, f0, f1, f2⟩ := RB_later hb2 (RB_alloc Ra (.cells #[.int .i64 na, .int .u64 (U K), .int .u64 (U H)] 60))
  obtain ⟨x1, y1, z1, d0, d1, d2, g0, g1, g2⟩ := RB_later hb2 (RB_alloc Rb (.cells #[.int .i64 na, .int .u64 (U K), .int .u64 (U H)] 60))
  clear Ra Rb
  have B2 : Below w.heap.size w w2 := btr (bal (btr (bal (bal (brf w) _) _) hb1) _) hb2
  unfold V
  cases x
  · go_wp2
    go_region
    go_wp2
    refine bodyPost_ret (v := .tuple #[V na K H, V nb P Q, .bool false]) (by simp [results, Try.results51, go_sem, V, c0, c1, c2, d0, d1, d2, hz3, hz4]) rfl ⟨⟨_, _, _, _, _, _, rfl⟩, ?_⟩
    exact bdr (bal (bst (bst (bst (bst (bst (bst B2 (Nat.le_refl _) _) (Nat.le_refl _) _) (Nat.le_refl _) _) (Nat.le_succ _) _) (Nat.le_succ _) _) (Nat.le_succ _) _) _)
  · rw [Bool.true_and] at hv
    subst hv
    go_wp2
    go_region
    go_wp2
    refine bodyPost_ret (v := .tuple #[V na K H, V nb P Q, .bool false]) (by simp [results, Try.results51, go_sem, V, c0, c1, c2, d0, d1, d2, hz3, hz4]) rfl ⟨⟨_, _, _, _, _, _, rfl⟩, ?_⟩
    exact bdr (bal (bst (bst (bst (bst (bst (bst B2 (Nat.le_refl _) _) (Nat.le_refl _) _) (Nat.le_refl _) _) (Nat.le_succ _) _) (Nat.le_succ _) _) (Nat.le_succ _) _) _)
end Go.Proofs.Ytmbllgblbdfobaa
