/- What the program's unaryOps and Unary answer. -/
/- What the program's binaryOps and its closures answer. -/
/- What the closures of the program's binaryOps answer. -/
import Derived.Test.YtmbllgblbdfobaaG8U4
import Derived.Test.YtmbllgblbdfobaaG3IT
import Derived.Deep.MidRow
import Derived.Test.YtmbllgblbdfobaaJ4
import Derived.Test.YtmbllgblbdfobaaJ2
namespace Go.Proofs.Ytmbllgblbdfobaa
open Go.RowKit
/-- The table of the unary operations. -/
def uTab : Array Value := #[.nilFunc, .nilFunc, .nilFunc, .nilFunc, .nilFunc, .nilFunc, .nilFunc, .nilFunc, .nilFunc, .nilFunc, .nilFunc, .nilFunc, .nilFunc, .nilFunc, .nilFunc, .nilFunc, .nilFunc, .nilFunc, .nilFunc, .func (.func 103) #[] #[], .func (.func 104) #[] #[], .func (.func 105) #[] #[], .func (.func 106) #[] #[], .func (.func 107) #[] #[], .func (.func 108) #[] #[]]
theorem uTab_one : (uTab.all fun x => x.oneCell') = true := by kernel_rfl
theorem there_new (w : World) (cs : Array Value) (t : TypeId) (n : Nat) (h : cs.size = n) : (w.alloc (.cells cs t)).there w.heap.size 0 n := by
  intro j hj
  rw [Nat.zero_add]
  constructor
  · rw [World.cell?_alloc_new, Array.getElem?_eq_getElem (by omega)]; rfl
  · exact World.frozen?_alloc_at _ _ _ _ rfl
theorem results_row {fn : Func} {p : Tmp} {ty : TypeId} (h : fn.results = #[.cell p ty]) (tmps : Array Value) (w : World) (b : Nat) (cs : List Value) (d : TypeDesc) (ht : tmps.getD p undef = .pointer (some ⟨b, 0, none⟩)) (hc : w.rangeAt b 0 cs)
    (hu : Try.prog.underlying ty = some d) (hd : d.isRow = true) (hi : (Try.prog.info? ty).map (·.size) = some cs.length) : (results fn tmps).run Try.prog w = .ok (.agg cs.toArray) w := by
  have hl := run_loadVar_mid (P := Try.prog) w b 0 ty cs d hc hu hd hi
  have ht' : tmps[p]?.getD undef = .pointer (some ⟨b, 0, none⟩) := by simpa using ht
  simp [results, h, ht', asAddr, hl]
theorem below_setCells {w W : World} (h : Below w.heap.size w W) (vs : List Value) : ∀ o, Below w.heap.size w (W.setCells w.heap.size o vs) := by
  induction vs generalizing W with
  | nil => intro o; exact h
  | cons v t ih => intro o; exact ih (bst h (Nat.le_refl _) v) (o + 1)
set_option maxRecDepth 100000 in
set_option maxHeartbeats 400000 in
theorem iUnaryOps (w : World) :
    Calls Try.prog 55 #[] w fun e w' => e = .returned (.agg uTab) ∧ Below w.heap.size w w' := by
  go_enter Try.func55, Try.ntmps55
  go_wp2_with (refine wpList_store_mid rfl 76 (.tmp 0) (.tmp 1) rfl w.heap.size 0 uTab rfl rfl (there_new _ _ _ _ rfl) (by kernel_rfl) uTab_one ?_)


  refine bodyPost_ret (v := .agg uTab) (results_row Try.results55 _ _ w.heap.size uTab.toList _ rfl (World.rangeAt_setCells_same _ _ _ _ (there_new _ _ _ _ rfl)) Try.underlying76 rfl (by kernel_rfl)) rfl ⟨rfl, ?_⟩
  exact below_setCells (bal (brf w) _) _ _
end Go.Proofs.Ytmbllgblbdfobaa
namespace Go.Proofs.Ytmbllgblbdfobaa
open Go.RowKit
set_option linter.unusedVariables false
/-- The table of the binary operations: four of them hold the variable signed. -/
def bTab (b : Nat) : Array Value := #[.nilFunc, .func (.func 81) #[] #[], .func (.func 82) #[] #[], .func (.func 83) #[] #[], .func (.func 84) #[] #[], .func (.func 85) #[] #[], .func (.func 86) #[] #[], .func (.func 87) #[] #[.pointer (some ⟨b, 0, none⟩)], .func (.func 89) #[] #[.pointer (some ⟨b, 0, none⟩)], .func (.func 91) #[] #[], .func (.func 92) #[] #[], .func (.func 93) #[] #[], .func (.func 94) #[] #[.pointer (some ⟨b, 0, none⟩)], .func (.func 96) #[] #[.pointer (some ⟨b, 0, none⟩)], .func (.func 98) #[] #[], .func (.func 99) #[] #[], .func (.func 100) #[] #[], .func (.func 101) #[] #[], .func (.func 102) #[] #[]]
theorem bTab_one (b : Nat) : ((bTab b).all fun x => x.oneCell') = true := by unfold bTab; simp [Value.oneCell']
theorem there_new' {w : World} {cs : Array Value} {t : TypeId} {n M : Nat} (hM : w.heap.size = M) (h : cs.size = n) : (w.alloc (.cells cs t)).there M 0 n := by subst hM; exact there_new w cs t n h
theorem below_setCells' {w W : World} (b : Nat) (hb : w.heap.size ≤ b) (h : Below w.heap.size w W) (vs : List Value) : ∀ o, Below w.heap.size w (W.setCells b o vs) := by
  induction vs generalizing W with
  | nil => intro o; exact h
  | cons v t ih => intro o; exact ih (bst h hb v) (o + 1)
theorem cells_at1 (X : World) (v : Value) (t : TypeId) : (X.alloc (.cells #[v] t)).cell? ⟨X.heap.size, 0, none⟩ = some v := by rw [World.cell?_alloc_new]; rfl
theorem keep_setCells {B b : Nat} {W W' : World} (hb : B ≤ b) (h : ∀ k, k < B → W'.heap[k]? = W.heap[k]?) (vs : List Value) : ∀ o, ∀ k, k < B → (W'.setCells b o vs).heap[k]? = W.heap[k]? := by
  induction vs generalizing W' with
  | nil => intro o; exact h
  | cons v t ih => intro o; exact ih (fun k hk => (Below.heap_setCell _ _ _ _ (by show k ≠ b; omega)).trans (h k hk)) (o + 1)
set_option maxRecDepth 100000 in
set_option maxHeartbeats 400000 in
theorem iBinaryOps (sg : Bool) (w : World) :
    Calls Try.prog 53 #[.bool sg] w fun e w' => e = .returned (.agg (bTab w.heap.size)) ∧ w'.cell? ⟨w.heap.size, 0, none⟩ = some (.bool sg) ∧ Below w.heap.size w w' := by
  have hmf : ∀ (fn : Fn) (first cap : Array Value) (w : World), (Instr.makeFunc fn first cap).run Try.prog w = .ok (.func fn first cap) w := fun _ _ _ _ => rfl
  go_enter Try.func53, Try.ntmps53
  go_wp2_with (refine wpList_store_mid rfl 70 (.tmp 2) (.tmp 7) rfl (w.heap.size + 1) 0 (bTab w.heap.size) rfl rfl (there_new' (by simp) rfl) (by kernel_rfl) (bTab_one _) ?_)
  refine bodyPost_ret (v := .agg (bTab w.heap.size)) (results_row Try.results53 _ _ (w.heap.size + 1) (bTab w.heap.size).toList _ rfl (World.rangeAt_setCells_same _ _ _ _ (there_new' (by simp) rfl)) Try.underlying70 rfl (by kernel_rfl)) rfl ⟨rfl, ?_, ?_⟩
  · rw [World.cell?_of_block (keep_setCells (B := w.heap.size + 1) (Nat.le_refl _) (fun k _ => rfl) _ 0 w.heap.size (by omega))]
    exact cell_later (bal (brf _) _) (cells_at1 _ _ _)
  · exact below_setCells' _ (by omega) (bal (bal (brf w) _) _) _ _
end Go.Proofs.Ytmbllgblbdfobaa
namespace Go.Proofs.Ytmbllgblbdfobaa
open Go.RowKit
set_option linter.unusedVariables false
attribute [local go_sem] U_and U_or U_xor U_andNot U_shl U_shr U_shl1 U_or1 U_and1 U_toNat U_nonneg U_low U_beq U_bne
set_option maxRecDepth 100000 in
set_option maxHeartbeats 400000 in
theorem iCDiv (b : Nat) (n m l : Nat) (k h p q A B : BitVec 64) (sg : Bool) (hc : ∀ w, Calls Try.prog 88 #[.agg #[.int .i64 n, .int .u64 (U k), .int .u64 (U h)], .agg #[.int .i64 m, .int .u64 (U p), .int .u64 (U q)], .bool sg] w fun e w' => e = .returned (V l A B) ∧ Below w.heap.size w w') (w : World) (hbc : w.cell? ⟨b, 0, none⟩ = some (.bool sg)) :
    Calls Try.prog 87 #[V n k h, V m p q, .pointer (some ⟨b, 0, none⟩)] w fun e w' => e = .returned (V l A B) ∧ Below w.heap.size w w' := by
  have HC := hide hc
  have hbl : b < w.heap.size := World.block_lt_of_cell? w _ hbc
  have n0 : ¬ b = w.heap.size := by omega
  have n1 : ¬ b = w.heap.size + 1 := by omega
  have n2 : ¬ b = w.heap.size + 1 + 1 := by omega
  have n3 : ¬ w.heap.size + 1 + 1 = b := by omega
  have hbc3 : (((w.alloc (.cells #[.int .i64 n, .int .u64 (U (k)), .int .u64 (U (h))] 60)).alloc (.cells #[.int .i64 m, .int .u64 (U (p)), .int .u64 (U (q))] 60)).alloc (.cells #[.int .i64 0, .int .u64 0, .int .u64 0] 60)).cell? ⟨b, 0, none⟩ = some (.bool sg) := cell_later (bal (bal (bal (brf _) _) _) _) hbc
  clear hc
  unfold V
  go_enter Try.func87, Try.ntmps87
  go_wp2_with fail
  refine (unhide HC _).mono ?_
  rintro e w1 ⟨rfl, hb1⟩
  have hB1 : Below w.heap.size w w1 := btr (bal (bal (bal (brf w) _) _) _) hb1
  obtain ⟨v0_1, v1_1, v2_1⟩ : VB (w.heap.size) n k h w1 := by refine VB_later hb1 ⟨?_, ?_, ?_⟩ <;> go_simp
  obtain ⟨u0_1, u1_1, u2_1⟩ : VB (w.heap.size + 1) m p q w1 := by refine VB_later hb1 ⟨?_, ?_, ?_⟩ <;> go_simp
  have Xr1 : RB (w.heap.size + 1 + 1) w1 := by refine RB_later hb1 ⟨.int .i64 0, .int .u64 0, .int .u64 0, ?_, ?_, ?_, ?_, ?_, ?_⟩ <;> go_simp
  obtain ⟨x0, y0, z0, c0, c1, c2, f0, f1, f2⟩ := Xr1
  have h2 : w.heap.size ≤ w.heap.size + 1 + 1 := by omega
  unfold V
  go_wp2
  exact bodyPost_ret (v := V l (A) (B)) (by simp [results, Try.results87, go_sem, V, c0, c1, c2]) rfl ⟨rfl, bst (bst (bst hB1 h2 _) h2 _) h2 _⟩
set_option maxRecDepth 100000 in
set_option maxHeartbeats 400000 in
theorem iCRem (b : Nat) (n m l : Nat) (k h p q A B : BitVec 64) (sg : Bool) (hc : ∀ w, Calls Try.prog 90 #[.agg #[.int .i64 n, .int .u64 (U k), .int .u64 (U h)], .agg #[.int .i64 m, .int .u64 (U p), .int .u64 (U q)], .bool sg] w fun e w' => e = .returned (V l A B) ∧ Below w.heap.size w w') (w : World) (hbc : w.cell? ⟨b, 0, none⟩ = some (.bool sg)) :
    Calls Try.prog 89 #[V n k h, V m p q, .pointer (some ⟨b, 0, none⟩)] w fun e w' => e = .returned (V l A B) ∧ Below w.heap.size w w' := by
  have HC := hide hc
  have hbl : b < w.heap.size := World.block_lt_of_cell? w _ hbc
  have n0 : ¬ b = w.heap.size := by omega
  have n1 : ¬ b = w.heap.size + 1 := by omega
  have n2 : ¬ b = w.heap.size + 1 + 1 := by omega
  have n3 : ¬ w.heap.size + 1 + 1 = b := by omega
  have hbc3 : (((w.alloc (.cells #[.int .i64 n, .int .u64 (U (k)), .int .u64 (U (h))] 60)).alloc (.cells #[.int .i64 m, .int .u64 (U (p)), .int .u64 (U (q))] 60)).alloc (.cells #[.int .i64 0, .int .u64 0, .int .u64 0] 60)).cell? ⟨b, 0, none⟩ = some (.bool sg) := cell_later (bal (bal (bal (brf _) _) _) _) hbc
  clear hc
  unfold V
  go_enter Try.func89, Try.ntmps89
  go_wp2_with fail
  refine (unhide HC _).mono ?_
  rintro e w1 ⟨rfl, hb1⟩
  have hB1 : Below w.heap.size w w1 := btr (bal (bal (bal (brf w) _) _) _) hb1
  obtain ⟨v0_1, v1_1, v2_1⟩ : VB (w.heap.size) n k h w1 := by refine VB_later hb1 ⟨?_, ?_, ?_⟩ <;> go_simp
  obtain ⟨u0_1, u1_1, u2_1⟩ : VB (w.heap.size + 1) m p q w1 := by refine VB_later hb1 ⟨?_, ?_, ?_⟩ <;> go_simp
  have Xr1 : RB (w.heap.size + 1 + 1) w1 := by refine RB_later hb1 ⟨.int .i64 0, .int .u64 0, .int .u64 0, ?_, ?_, ?_, ?_, ?_, ?_⟩ <;> go_simp
  obtain ⟨x0, y0, z0, c0, c1, c2, f0, f1, f2⟩ := Xr1
  have h2 : w.heap.size ≤ w.heap.size + 1 + 1 := by omega
  unfold V
  go_wp2
  exact bodyPost_ret (v := V l (A) (B)) (by simp [results, Try.results89, go_sem, V, c0, c1, c2]) rfl ⟨rfl, bst (bst (bst hB1 h2 _) h2 _) h2 _⟩
set_option maxRecDepth 100000 in
set_option maxHeartbeats 400000 in
theorem iCLt (b : Nat) (n m l : Nat) (k h p q A B : BitVec 64) (sg : Bool) (hc : ∀ w, Calls Try.prog 95 #[.agg #[.int .i64 n, .int .u64 (U k), .int .u64 (U h)], .agg #[.int .i64 m, .int .u64 (U p), .int .u64 (U q)], .bool sg] w fun e w' => e = .returned (V l A B) ∧ Below w.heap.size w w') (w : World) (hbc : w.cell? ⟨b, 0, none⟩ = some (.bool sg)) :
    Calls Try.prog 94 #[V n k h, V m p q, .pointer (some ⟨b, 0, none⟩)] w fun e w' => e = .returned (V l A B) ∧ Below w.heap.size w w' := by
  have HC := hide hc
  have hbl : b < w.heap.size := World.block_lt_of_cell? w _ hbc
  have n0 : ¬ b = w.heap.size := by omega
  have n1 : ¬ b = w.heap.size + 1 := by omega
  have n2 : ¬ b = w.heap.size + 1 + 1 := by omega
  have n3 : ¬ w.heap.size + 1 + 1 = b := by omega
  have hbc3 : (((w.alloc (.cells #[.int .i64 n, .int .u64 (U (k)), .int .u64 (U (h))] 60)).alloc (.cells #[.int .i64 m, .int .u64 (U (p)), .int .u64 (U (q))] 60)).alloc (.cells #[.int .i64 0, .int .u64 0, .int .u64 0] 60)).cell? ⟨b, 0, none⟩ = some (.bool sg) := cell_later (bal (bal (bal (brf _) _) _) _) hbc
  clear hc
  unfold V
  go_enter Try.func94, Try.ntmps94
  go_wp2_with fail
  refine (unhide HC _).mono ?_
  rintro e w1 ⟨rfl, hb1⟩
  have hB1 : Below w.heap.size w w1 := btr (bal (bal (bal (brf w) _) _) _) hb1
  obtain ⟨v0_1, v1_1, v2_1⟩ : VB (w.heap.size) n k h w1 := by refine VB_later hb1 ⟨?_, ?_, ?_⟩ <;> go_simp
  obtain ⟨u0_1, u1_1, u2_1⟩ : VB (w.heap.size + 1) m p q w1 := by refine VB_later hb1 ⟨?_, ?_, ?_⟩ <;> go_simp
  have Xr1 : RB (w.heap.size + 1 + 1) w1 := by refine RB_later hb1 ⟨.int .i64 0, .int .u64 0, .int .u64 0, ?_, ?_, ?_, ?_, ?_, ?_⟩ <;> go_simp
  obtain ⟨x0, y0, z0, c0, c1, c2, f0, f1, f2⟩ := Xr1
  have h2 : w.heap.size ≤ w.heap.size + 1 + 1 := by omega
  unfold V
  go_wp2
  exact bodyPost_ret (v := V l (A) (B)) (by simp [results, Try.results94, go_sem, V, c0, c1, c2]) rfl ⟨rfl, bst (bst (bst hB1 h2 _) h2 _) h2 _⟩
set_option maxRecDepth 100000 in
set_option maxHeartbeats 400000 in
theorem iCLe (b : Nat) (n m l : Nat) (k h p q A B : BitVec 64) (sg : Bool) (hc : ∀ w, Calls Try.prog 97 #[.agg #[.int .i64 n, .int .u64 (U k), .int .u64 (U h)], .agg #[.int .i64 m, .int .u64 (U p), .int .u64 (U q)], .bool sg] w fun e w' => e = .returned (V l A B) ∧ Below w.heap.size w w') (w : World) (hbc : w.cell? ⟨b, 0, none⟩ = some (.bool sg)) :
    Calls Try.prog 96 #[V n k h, V m p q, .pointer (some ⟨b, 0, none⟩)] w fun e w' => e = .returned (V l A B) ∧ Below w.heap.size w w' := by
  have HC := hide hc
  have hbl : b < w.heap.size := World.block_lt_of_cell? w _ hbc
  have n0 : ¬ b = w.heap.size := by omega
  have n1 : ¬ b = w.heap.size + 1 := by omega
  have n2 : ¬ b = w.heap.size + 1 + 1 := by omega
  have n3 : ¬ w.heap.size + 1 + 1 = b := by omega
  have hbc3 : (((w.alloc (.cells #[.int .i64 n, .int .u64 (U (k)), .int .u64 (U (h))] 60)).alloc (.cells #[.int .i64 m, .int .u64 (U (p)), .int .u64 (U (q))] 60)).alloc (.cells #[.int .i64 0, .int .u64 0, .int .u64 0] 60)).cell? ⟨b, 0, none⟩ = some (.bool sg) := cell_later (bal (bal (bal (brf _) _) _) _) hbc
  clear hc
  unfold V
  go_enter Try.func96, Try.ntmps96
  go_wp2_with fail
  refine (unhide HC _).mono ?_
  rintro e w1 ⟨rfl, hb1⟩
  have hB1 : Below w.heap.size w w1 := btr (bal (bal (bal (brf w) _) _) _) hb1
  obtain ⟨v0_1, v1_1, v2_1⟩ : VB (w.heap.size) n k h w1 := by refine VB_later hb1 ⟨?_, ?_, ?_⟩ <;> go_simp
  obtain ⟨u0_1, u1_1, u2_1⟩ : VB (w.heap.size + 1) m p q w1 := by refine VB_later hb1 ⟨?_, ?_, ?_⟩ <;> go_simp
  have Xr1 : RB (w.heap.size + 1 + 1) w1 := by refine RB_later hb1 ⟨.int .i64 0, .int .u64 0, .int .u64 0, ?_, ?_, ?_, ?_, ?_, ?_⟩ <;> go_simp
  obtain ⟨x0, y0, z0, c0, c1, c2, f0, f1, f2⟩ := Xr1
  have h2 : w.heap.size ≤ w.heap.size + 1 + 1 := by omega
  unfold V
  go_wp2
  exact bodyPost_ret (v := V l (A) (B)) (by simp [results, Try.results96, go_sem, V, c0, c1, c2]) rfl ⟨rfl, bst (bst (bst hB1 h2 _) h2 _) h2 _⟩
end Go.Proofs.Ytmbllgblbdfobaa
