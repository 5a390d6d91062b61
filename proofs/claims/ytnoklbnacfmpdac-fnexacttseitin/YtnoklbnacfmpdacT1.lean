/- The specification's l13Cone, l13Lit; the program's clauseLit. -/
import Derived.Test.YtnoklbnacfmpdacTC
import Derived.Test.YtnoklbnacfmpdacSPa
namespace Go.Proofs.Ytnoklbnacfmpdac
open Go Go.RowKit Gs
set_option linter.unusedVariables false
set_option linter.unusedSimpArgs false
set_option maxRecDepth 100000
set_option maxHeartbeats 1600000 in
theorem sLit13 (z : Int) (w : World) (h0 : 0 ≤ z) (h1 : z ≤ 8388608) :
    Calls Try.prog 20 #[.int .i64 z] w fun e w' => e = .returned (.int .i64 (clL z)) ∧ w' = w := by
  go_enter Try.func20, Try.ntmps20
  by_cases h : z % 2 = 1
  · have HE : Hid (clL z = -(z / 2 + 1)) := hide (by unfold clL; rw [if_pos h])
    go_wp2
    exact bodyPost_ret (v := .int .i64 (-(z / 2 + 1))) (by simp [results, Try.results20, go_sem]) rfl ⟨by rw [unhide HE], rfl⟩
  · have HE : Hid (clL z = z / 2 + 1) := hide (by unfold clL; rw [if_neg h])
    go_wp2
    exact bodyPost_ret (v := .int .i64 (z / 2 + 1)) (by simp [results, Try.results20, go_sem]) rfl ⟨by rw [unhide HE], rfl⟩
set_option maxHeartbeats 1600000 in
theorem iLit13 (z : Int) (w : World) (h0 : 0 ≤ z) (h1 : z ≤ 8388608) :
    Calls Try.prog 29 #[.int .i64 z] w fun e w' => e = .returned (.int .i64 (clL z)) ∧ w' = w := by
  go_enter Try.func29, Try.ntmps29
  by_cases h : z % 2 = 1
  · have HE : Hid (clL z = -(1 + z / 2)) := hide (by unfold clL; rw [if_pos h]; omega)
    go_wp2
    exact bodyPost_ret (v := .int .i64 (-(1 + z / 2))) (by simp [results, Try.results29, go_sem]) rfl ⟨by rw [unhide HE], rfl⟩
  · have HE : Hid (clL z = 1 + z / 2) := hide (by unfold clL; rw [if_neg h]; omega)
    go_wp2
    exact bodyPost_ret (v := .int .i64 (1 + z / 2)) (by simp [results, Try.results29, go_sem]) rfl ⟨by rw [unhide HE], rfl⟩
theorem heap_al {W : World} {o x : Obj} {k : Nat} (h : W.heap[k]? = some x) : (W.alloc o).heap[k]? = some x :=
  (Below.heap_alloc _ _ _ (Array.getElem?_eq_some_iff.1 h).1).trans h
theorem heap_new (w : World) (o : Obj) : (w.alloc o).heap[w.heap.size]? = some o := by
  show (w.heap.push o)[w.heap.size]? = some o
  simp
/-- The slices of the clauses of one and. -/
def sl3 (h : Nat) : List Value := [.slice (some ⟨h, 0, none⟩) 2 2, .slice (some ⟨h + 1, 0, none⟩) 2 2, .slice (some ⟨h + 1 + 1, 0, none⟩) 3 3]
def wl3 (w : World) (n a b : Int) : World := ((w.alloc (.cells #[.int .i64 (-n), .int .i64 a] 3)).alloc (.cells #[.int .i64 (-n), .int .i64 b] 3)).alloc (.cells #[.int .i64 n, .int .i64 (-a), .int .i64 (-b)] 3)
theorem wl3_size (w : World) (n a b : Int) : (wl3 w n a b).heap.size = w.heap.size + 1 + 1 + 1 := by unfold wl3; simp
theorem wl3_below (w : World) (n a b : Int) : Below w.heap.size w (wl3 w n a b) := bal (bal (bal (brf w) _) _) _
theorem wl3_RI (w : World) (n a b : Int) : RI (wl3 w n a b) w.heap.size (w.heap.size + 1 + 1 + 1) (andC n a b) (sl3 w.heap.size) := by
  have s1 : (w.alloc (.cells #[.int .i64 (-n), .int .i64 a] 3)).heap.size = w.heap.size + 1 := by simp
  have s2 : ((w.alloc (.cells #[.int .i64 (-n), .int .i64 a] 3)).alloc (.cells #[.int .i64 (-n), .int .i64 b] 3)).heap.size = w.heap.size + 1 + 1 := by simp
  refine ⟨w.heap.size, rfl, Nat.le_refl _, ?_, w.heap.size + 1, rfl, Nat.le_refl _, ?_, w.heap.size + 1 + 1, rfl, Nat.le_refl _, ?_, Nat.le_refl _⟩
  · exact heap_al (heap_al (heap_new w _))
  · have := heap_al (o := .cells #[.int .i64 n, .int .i64 (-a), .int .i64 (-b)] 3) (heap_new (w.alloc (.cells #[.int .i64 (-n), .int .i64 a] 3)) (.cells #[.int .i64 (-n), .int .i64 b] 3))
    rw [s1] at this
    exact this
  · have := heap_new ((w.alloc (.cells #[.int .i64 (-n), .int .i64 a] 3)).alloc (.cells #[.int .i64 (-n), .int .i64 b] 3)) (.cells #[.int .i64 n, .int .i64 (-a), .int .i64 (-b)] 3)
    rw [s2] at this
    exact this
theorem RI.later {W W' : World} {B E : Nat} {xs : List (List Int)} {us : List Value} (h : RI W B E xs us) (hb : Below W.heap.size W W') : RI W' B E xs us :=
  RI.keep xs us (fun b o _ _ hc => (hb.block b (Array.getElem?_eq_some_iff.1 hc).1).trans hc) h
set_option maxHeartbeats 3200000 in
/-- The clauses of one and, in new memory. -/
theorem iAndC (n a b : Int) (w : World) (hn : 0 ≤ n ∧ n ≤ 8388608) (ha : -8388608 ≤ a ∧ a ≤ 8388608) (hb : -8388608 ≤ b ∧ b ≤ 8388608) :
    Calls Try.prog 31 #[.int .i64 n, .int .i64 a, .int .i64 b] w fun e w' => (∃ g us, e = .returned (.slice (some ⟨g, 0, none⟩) 3 3) ∧ us.length = 3 ∧ (∀ u ∈ us, u.oneCell' = true) ∧ RI w' w.heap.size w'.heap.size (andC n a b) us ∧ ∀ j u, us[j]? = some u → w'.cell? ⟨g, j, none⟩ = some u) ∧ Below w.heap.size w w' := by
  go_enter Try.func31, Try.ntmps31
  go_wp2
  refine bodyPost_ret (v := .slice (some ⟨w.heap.size + 1 + 1 + 1, 0, none⟩) 3 3) (by simp [results, Try.results31, go_sem]) rfl ⟨⟨w.heap.size + 1 + 1 + 1, sl3 w.heap.size, rfl, rfl, ?_, ?_, ?_⟩, bal (wl3_below w n a b) _⟩
  · intro u hu; unfold sl3 at hu; simp at hu; rcases hu with rfl | rfl | rfl <;> rfl
  · have := RI.later (wl3_RI w n a b) (bal (brf (wl3 w n a b)) (.cells (sl3 w.heap.size).toArray 51))
    exact RI.up _ _ (by simp) this
  · intro j u hj
    have h : ((wl3 w n a b).alloc (.cells (sl3 w.heap.size).toArray 51)).cell? ⟨(wl3 w n a b).heap.size, j, none⟩ = some u := by
      rw [World.cell?_alloc_new]; simpa using hj
    rw [wl3_size] at h
    exact h
theorem vN_of {z : Int} (h0 : 0 ≤ z) : z / 2 = (vN z : Int) := by unfold vN; omega
theorem info4 : (Try.prog.info? 4).map (fun i => (i.zero, i.size, i.bytes)) = some (some (.bool false), 1, 1) := by kernel_rfl
theorem make_bools (T : TypeId) (hT : Try.prog.underlying T = some (.slice 4)) (n : Nat) (hn : n ≤ 4194304) : ∃ M : Array Value, M.size = n ∧ (∀ i, i < n → M[i]? = some (.bool false)) ∧ ∀ W : World, (Instr.makeSlice T (.int .i64 (n : Int)) (.int .i64 (n : Int))).run Try.prog W = .ok (.slice (some ⟨W.heap.size, 0, none⟩) n n) (W.alloc (.cells M 4)) := by
  obtain ⟨i0, hi, hz0, hz1, hz2⟩ := info_parts info4
  refine ⟨madeCells #[.bool false] n, size_madeCells #[.bool false] n, fun i hi => by simp [madeCells, hi, Nat.mod_one], fun W => ?_⟩
  have hr := run_make (P := Try.prog) W T 4 i0 _ hT hi hz0 .i64 .i64 n n (by omega) (Int.le_refl _) (by rw [hz2]; omega) (by omega)
  rw [hr, hz1]
  simp
  rfl
theorem NB_made {W : World} {n : Nat} {M : Array Value} (h1 : M.size = n) (h2 : ∀ i, i < n → M[i]? = some (.bool false)) : NB W.heap.size (W.alloc (.cells M 4)) (List.replicate n false) := by
  intro i x hx
  rw [List.getElem?_replicate] at hx
  split at hx
  · rename_i hi
    cases hx
    exact ⟨by rw [World.cell?_alloc_new]; exact h2 i hi, by simp⟩
  · cases hx
end Go.Proofs.Ytnoklbnacfmpdac
