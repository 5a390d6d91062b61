/- instrKinds. -/
import Derived.Test.YtbpcomnneemolaaCKA
import Derived.Deep.WholeRow
namespace Go.Proofs.Ytbpcomnneemolaa
open Go.RowKit Gs
set_option linter.unusedVariables false
set_option maxRecDepth 100000
def kA0 : Array Value := #[.int .i64 0, .nilFunc, .int .i64 0, .nilFunc, .int .i64 0, .nilFunc, .int .i64 0, .nilFunc, .int .i64 0, .nilFunc, .int .i64 0, .nilFunc, .int .i64 0, .nilFunc, .int .i64 0, .nilFunc, .int .i64 0, .nilFunc, .int .i64 0, .nilFunc, .int .i64 0, .nilFunc, .int .i64 0, .nilFunc, .int .i64 0, .nilFunc, .int .i64 0, .nilFunc, .int .i64 0, .nilFunc, .int .i64 0, .nilFunc, .int .i64 0, .nilFunc, .int .i64 0, .nilFunc, .int .i64 0, .nilFunc, .int .i64 0, .nilFunc, .int .i64 0, .nilFunc, .int .i64 0, .nilFunc, .int .i64 0, .nilFunc, .int .i64 0, .nilFunc, .int .i64 0, .nilFunc, .int .i64 3, .func (.func 34) #[] #[], .int .i64 2, .func (.func 35) #[] #[], .int .i64 1, .func (.func 36) #[] #[], .int .i64 1, .func (.func 37) #[] #[], .int .i64 0, .func (.func 38) #[] #[], .int .i64 0, .nilFunc, .int .i64 0, .nilFunc, .int .i64 0, .nilFunc, .int .i64 0, .func (.func 39) #[] #[], .int .i64 0, .func (.func 40) #[] #[]]
/-- The table after k rounds of both loops. -/
def kA (k : Nat) : Array Value := ((List.range k).foldl (fun (A : Array Value) (i : Nat) => (A.setIfInBounds ((i + 1) * 2) (.int .i64 (if i + 1 ≤ 18 then 2 else 1))).setIfInBounds ((i + 1) * 2 + 1) (.func (.func (if i + 1 ≤ 18 then 41 else 42)) #[] #[])) kA0)
def kL : Array Value := #[.int .i64 0, .nilFunc, .int .i64 2, .func (.func 41) #[] #[], .int .i64 2, .func (.func 41) #[] #[], .int .i64 2, .func (.func 41) #[] #[], .int .i64 2, .func (.func 41) #[] #[], .int .i64 2, .func (.func 41) #[] #[], .int .i64 2, .func (.func 41) #[] #[], .int .i64 2, .func (.func 41) #[] #[], .int .i64 2, .func (.func 41) #[] #[], .int .i64 2, .func (.func 41) #[] #[], .int .i64 2, .func (.func 41) #[] #[], .int .i64 2, .func (.func 41) #[] #[], .int .i64 2, .func (.func 41) #[] #[], .int .i64 2, .func (.func 41) #[] #[], .int .i64 2, .func (.func 41) #[] #[], .int .i64 2, .func (.func 41) #[] #[], .int .i64 2, .func (.func 41) #[] #[], .int .i64 2, .func (.func 41) #[] #[], .int .i64 2, .func (.func 41) #[] #[], .int .i64 1, .func (.func 42) #[] #[], .int .i64 1, .func (.func 42) #[] #[], .int .i64 1, .func (.func 42) #[] #[], .int .i64 1, .func (.func 42) #[] #[], .int .i64 1, .func (.func 42) #[] #[], .int .i64 1, .func (.func 42) #[] #[], .int .i64 3, .func (.func 34) #[] #[], .int .i64 2, .func (.func 35) #[] #[], .int .i64 1, .func (.func 36) #[] #[], .int .i64 1, .func (.func 37) #[] #[], .int .i64 0, .func (.func 38) #[] #[], .int .i64 0, .nilFunc, .int .i64 0, .nilFunc, .int .i64 0, .nilFunc, .int .i64 0, .func (.func 39) #[] #[], .int .i64 0, .func (.func 40) #[] #[]]
theorem kA_all : kA 24 = kL := by kernel_rfl
theorem kA_zero : Try.zeroCells62.size = 70 := by kernel_rfl
theorem st62 (w : World) (l : List Value) (hl : l = kA0.toList) : Sem.run Try.prog (storeCells ⟨w.heap.size + 1, 0, none⟩ l) ((w.alloc (.cells Try.zeroCells62 62)).alloc (.cells Try.zeroCells62 62)) = .ok () ((w.alloc (.cells Try.zeroCells62 62)).alloc (.cells (kA 0) 62)) := by
  have e : w.heap.size + 1 = (w.alloc (.cells Try.zeroCells62 62)).heap.size := by go_simp
  subst hl
  rw [e]
  exact run_storeCells_new (P := Try.prog) _ 62 Try.zeroCells62 kA0 (by kernel_rfl) (by kernel_rfl) (by kernel_rfl)
theorem kA_succ (k : Nat) : kA (k + 1) = ((kA k).setIfInBounds ((k + 1) * 2) (.int .i64 (if k + 1 ≤ 18 then 2 else 1))).setIfInBounds ((k + 1) * 2 + 1) (.func (.func (if k + 1 ≤ 18 then 41 else 42)) #[] #[]) := by
  unfold kA
  rw [List.range_succ, List.foldl_append]
  rfl
theorem kA_size (k : Nat) : (kA k).size = 70 := by
  induction k with
  | zero => kernel_rfl
  | succ k ih => rw [kA_succ, Array.size_setIfInBounds, Array.size_setIfInBounds, ih]
theorem kA_at (k j : Nat) (h : j < 70) : ∃ u, (kA k)[j]? = some u := ⟨(kA k)[j]'(by rw [kA_size]; exact h), Array.getElem?_eq_getElem _⟩
theorem st61 (w : World) (A : Array Value) (i : Nat) (u v : Value) (h1 : v.oneCell' = true) (hu : A[i]? = some u) : Sem.run Try.prog (store ⟨w.heap.size + 1, i, none⟩ v) ((w.alloc (.cells Try.zeroCells62 62)).alloc (.cells A 62)) = .ok () ((w.alloc (.cells Try.zeroCells62 62)).alloc (.cells (A.setIfInBounds i v) 62)) := by
  generalize Try.zeroCells62 = Z
  have e : w.heap.size + 1 = (w.alloc (.cells Z 62)).heap.size := by go_simp
  rw [run_store Try.prog _ _ v _ h1]
  have hc : ((w.alloc (.cells Z 62)).alloc (.cells A 62)).cell? ⟨w.heap.size + 1, i, none⟩ = some u := by rw [e, World.cell?_alloc_new]; exact hu
  have hf : ((w.alloc (.cells Z 62)).alloc (.cells A 62)).frozen? ⟨w.heap.size + 1, i, none⟩ = false := by
    have hfz := World.frozen?_alloc_new (w.alloc (.cells Z 62)) A 62 i
    rw [e]; exact hfz
  have hs : ((w.alloc (.cells Z 62)).alloc (.cells A 62)).setCell ⟨w.heap.size + 1, i, none⟩ v = (w.alloc (.cells Z 62)).alloc (.cells (A.setIfInBounds i v) 62) := by rw [e]; exact World.setCell_alloc_new ..
  simp only [hc, hf, hs]
  simp
theorem setRow_past (w : World) (o : Obj) (g : Nat) (B : Array Value) (h : g < w.heap.size) : (w.alloc o).setRow g B = (w.setRow g B).alloc o := by
  simp only [World.setRow, World.alloc]
  congr 1
  apply Array.ext_getElem?
  intro i
  rw [Array.getElem?_modify, Array.getElem?_push, Array.getElem?_push, Array.getElem?_modify, Array.size_modify]
  by_cases h1 : i = w.heap.size
  · subst h1
    rw [if_pos rfl, if_pos rfl, if_neg (by omega)]
  · rw [if_neg h1, if_neg h1]
theorem st60 (w : World) (Z : Array Value) (l : List Value) (A B : Array Value) (hl : l = B.toList) (hz : Z.size = 70) (hs : B.size = 70) (h1 : ∀ v ∈ l, v.oneCell' = true) : Sem.run Try.prog (storeCells ⟨w.heap.size, 0, none⟩ l) ((w.alloc (.cells Z 62)).alloc (.cells A 62)) = .ok () ((w.alloc (.cells B 62)).alloc (.cells A 62)) := by
  have hg : ((w.alloc (.cells Z 62)).alloc (.cells A 62)).heap[w.heap.size]? = some (.cells Z 62 (0, 0)) := by
    show ((w.heap.push (.cells Z 62)).push (.cells A 62))[w.heap.size]? = _
    rw [Array.getElem?_push, if_neg (by simp), Array.getElem?_push, if_pos rfl]
  have hr := run_storeCells_from (P := Try.prog) w.heap.size 62 l 0 Z _ hg (by rw [hl, hz, Array.length_toList, hs]) h1
  refine hr.trans ?_
  subst hl
  rw [setRow_past _ _ _ _ (by show _ < (w.heap.push _).size; simp), List.take_zero, List.nil_append, Array.toArray_toList, World.setRow_alloc_new]
theorem ld62 (ρ : Operand → Value) (o : Oper) (w : World) (T : Array Value) (ho : o.op = .load 62 (.tmp 1)) (hρ : ρ (.tmp 1) = .pointer (some ⟨w.heap.size + 1, 0, none⟩)) (hT : T.size = 70) : Sem.run Try.prog (execOp ρ o) ((w.alloc (.cells Try.zeroCells62 62)).alloc (.cells T 62)) = .ok (.value (.agg T)) ((w.alloc (.cells Try.zeroCells62 62)).alloc (.cells T 62)) := by
  generalize Try.zeroCells62 = Z
  have e : w.heap.size + 1 = (w.alloc (.cells Z 62)).heap.size := by go_simp
  have h : Sem.run Try.prog (Instr.loadAt 62 (.pointer (some ⟨w.heap.size + 1, 0, none⟩))) ((w.alloc (.cells Z 62)).alloc (.cells T 62)) = .ok (.agg T) ((w.alloc (.cells Z 62)).alloc (.cells T 62)) := by
    rw [e]; exact run_loadAt_new _ 62 T 35 61 (by kernel_rfl) (by rw [hT]; kernel_rfl)
  unfold execOp
  rw [ho]
  simp only [hρ, Sem.run_bind, h, Result.andThen, Sem.run_pure]
end Go.Proofs.Ytbpcomnneemolaa
namespace Go.Proofs.Ytbpcomnneemolaa
open Go.RowKit Gs
set_option linter.unusedVariables false
set_option maxRecDepth 100000
theorem kL_size : kL.size = 70 := by kernel_rfl
theorem kL_one : kL.all (·.oneCell') = true := by kernel_rfl
theorem rl62 (w : World) (T : Array Value) (hT : T.size = 70) : Sem.run Try.prog (loadVar 62 ⟨w.heap.size, 0, none⟩) ((w.alloc (.cells T 62)).alloc (.cells T 62)) = .ok (.agg T) ((w.alloc (.cells T 62)).alloc (.cells T 62)) := by
  have hg : ((w.alloc (.cells T 62)).alloc (.cells T 62)).heap[w.heap.size]? = some (.cells T 62 (0, 0)) := by
    show ((w.heap.push (.cells T 62)).push (.cells T 62))[w.heap.size]? = _
    rw [Array.getElem?_push, if_neg (by simp), Array.getElem?_push, if_pos rfl]
  exact run_loadVar_row _ _ 62 62 T (0, 0) (.array 35 61) hg (by kernel_rfl) rfl (by rw [hT]; kernel_rfl)
set_option maxHeartbeats 16000000 in
theorem iKinds (w : World) : Calls Try.prog 22 #[] w fun e w' => (e = .returned (.agg (kA 24))) ∧ Below w.heap.size w w' := by
  go_enter Try.func22, Try.ntmps22
  go_wp2
  rw [st62 w _ (by kernel_rfl)]
  go_wp2
  go_loopw [2] (fun i wr => ∃ k : Nat, k ≤ 18 ∧ i = .int .i64 ((k : Int) + 1) ∧ wr = (w.alloc (.cells Try.zeroCells62 62)).alloc (.cells (kA k) 62)) (fun i _ => 40 - (intOf i).toNat)
  case atStart => exact ⟨0, by omega, rfl, rfl⟩
  case round =>
    obtain ⟨k, hk, rfl, rfl⟩ := hrel
    by_cases hlt : k < 18
    · obtain ⟨u1, hu1⟩ := kA_at k ((k + 1) * 2) (by omega)
      obtain ⟨u2, hu2⟩ := kA_at k ((k + 1) * 2 + 1) (by omega)
      have g1 : ((k : Int) + 1) ≤ 18 := by omega
      have g2 : (0 : Int) ≤ (k : Int) + 1 := by omega
      have g3 : ((k : Int) + 1) < 35 := by omega
      have g4 : ((k : Int) + 1).toNat = k + 1 := by omega
      have hu3 : ((kA k).setIfInBounds ((k + 1) * 2) (.int .i64 2))[(k + 1) * 2 + 1]? = some u2 := by
        rw [Array.getElem?_setIfInBounds, if_neg (by omega)]; exact hu2
      have HW := hide (show kA (k + 1) = ((kA k).setIfInBounds ((k + 1) * 2) (.int .i64 2)).setIfInBounds ((k + 1) * 2 + 1) (.func (.func 41) #[] #[]) from by rw [kA_succ, if_pos (by omega), if_pos (by omega)])
      go_wp2
      rw [st61 w _ _ u2 _ rfl hu3]
      go_wp2
      go_roundw
      case rel => exact ⟨k + 1, by omega, by go_num, by rw [unhide HW]⟩
      case measure => simp [intOf]; omega
    · obtain rfl : k = 18 := by omega
      rw [show (((18 : Nat) : Int) + 1) = 19 from rfl]
      go_wp2
      go_loopw [3] (fun i wr => ∃ k : Nat, 18 ≤ k ∧ k ≤ 24 ∧ i = .int .i64 ((k : Int) + 1) ∧ wr = (w.alloc (.cells Try.zeroCells62 62)).alloc (.cells (kA k) 62)) (fun i _ => 40 - (intOf i).toNat)
      case atStart => exact ⟨18, by omega, by omega, rfl, rfl⟩
      case round =>
        obtain ⟨k, hk0, hk, rfl, rfl⟩ := hrel
        by_cases hlt : k < 24
        · obtain ⟨u1, hu1⟩ := kA_at k ((k + 1) * 2) (by omega)
          obtain ⟨u2, hu2⟩ := kA_at k ((k + 1) * 2 + 1) (by omega)
          have g1 : ((k : Int) + 1) ≤ 24 := by omega
          have g2 : (0 : Int) ≤ (k : Int) + 1 := by omega
          have g3 : ((k : Int) + 1) < 35 := by omega
          have g4 : ((k : Int) + 1).toNat = k + 1 := by omega
          have hu3 : ((kA k).setIfInBounds ((k + 1) * 2) (.int .i64 1))[(k + 1) * 2 + 1]? = some u2 := by
            rw [Array.getElem?_setIfInBounds, if_neg (by omega)]; exact hu2
          have HW := hide (show kA (k + 1) = ((kA k).setIfInBounds ((k + 1) * 2) (.int .i64 1)).setIfInBounds ((k + 1) * 2 + 1) (.func (.func 42) #[] #[]) from by rw [kA_succ, if_neg (by omega), if_neg (by omega)])
          go_wp2
          rw [st61 w _ _ u2 _ rfl hu3]
          go_wp2
          go_roundw
          case rel => exact ⟨k + 1, by omega, by omega, by go_num, by rw [unhide HW]⟩
          case measure => simp [intOf]; omega
        · obtain rfl : k = 24 := by omega
          rw [kA_all]
          unfold kL
          rw [show (((24 : Nat) : Int) + 1) = 25 from rfl]
          go_wp2
          unfold Oper.wp
          rw [← kL.eq_1, ld62 _ _ w kL rfl rfl kL_size]
          have hT := kL_size
          have hV := hide kL_one
          have hR : Hid (kA 24 = kL) := hide kA_all
          generalize kL = T at *
          go_wp2
          rw [st60 w Try.zeroCells62 _ _ T rfl kA_zero hT (fun v hv => (Array.all_eq_true'.1 (unhide hV)) v (Array.mem_toList_iff.1 hv))]
          go_wp2
          refine bodyPost_ret (v := .agg T) ?_ rfl ⟨by rw [unhide hR], bal (bal (brf w) _) _⟩
          clear hR hV
          have hrow := rl62 w T hT
          simp [results, Try.results22, asAddr, hrow]
/-- What the table says of an op. -/
theorem kL_takes (j : Nat) (h : j < 35) : kL[j * 2]? = some (.int .i64 (takesOf j)) := by
  have key : ∀ j : Fin 35, kL[j.1 * 2]? = some (.int .i64 (takesOf j.1)) := by
    intro ⟨i, hi⟩
    have : i = 0 ∨ i = 1 ∨ i = 2 ∨ i = 3 ∨ i = 4 ∨ i = 5 ∨ i = 6 ∨ i = 7 ∨ i = 8 ∨ i = 9 ∨ i = 10 ∨ i = 11 ∨ i = 12 ∨ i = 13 ∨ i = 14 ∨ i = 15 ∨ i = 16 ∨ i = 17 ∨ i = 18 ∨ i = 19 ∨ i = 20 ∨ i = 21 ∨ i = 22 ∨ i = 23 ∨ i = 24 ∨ i = 25 ∨ i = 26 ∨ i = 27 ∨ i = 28 ∨ i = 29 ∨ i = 30 ∨ i = 31 ∨ i = 32 ∨ i = 33 ∨ i = 34 := by omega
    rcases this with rfl | rfl | rfl | rfl | rfl | rfl | rfl | rfl | rfl | rfl | rfl | rfl | rfl | rfl | rfl | rfl | rfl | rfl | rfl | rfl | rfl | rfl | rfl | rfl | rfl | rfl | rfl | rfl | rfl | rfl | rfl | rfl | rfl | rfl | rfl <;> rfl
  exact key ⟨j, h⟩
end Go.Proofs.Ytbpcomnneemolaa
