/- What the program's groupOf answers. -/
import Derived.Test.YtlcpmbdckmdabaaGreatDoorNDY
import Derived.Deep.MidRow
namespace Go.Proofs.YtlcpmbdckmdabaaGreatDoor
open Go.RowKit Nt
set_option linter.unusedVariables false
set_option maxRecDepth 100000
def grpL : List Nat := [1, 2, 3, 4, 5, 6, 6, 6, 7, 7, 7, 7, 8, 8, 8, 9, 9, 10, 10, 10]
def opsV : List Value := (List.range 20).flatMap fun k => [.string (S (binL.getD k [])), .int .i64 (grpL.getD k 0 : Nat)]
theorem opsV_len : opsV.length = 40 := by decide
theorem opsV_at (k : Nat) (h : k < 20) : opsV.toArray[k * 2]? = some (.string (S (binL.getD k []))) ∧ opsV.toArray[k * 2 + 1]? = some (.int .i64 (grpL.getD k 0 : Nat)) := by
  have : ∀ k : Fin 20, opsV.toArray[k.val * 2]? = some (.string (S (binL.getD k.val []))) ∧ opsV.toArray[k.val * 2 + 1]? = some (.int .i64 (grpL.getD k.val 0 : Nat)) := by
    intro k
    match k with
    | ⟨0, _⟩ | ⟨1, _⟩ | ⟨2, _⟩ | ⟨3, _⟩ | ⟨4, _⟩ | ⟨5, _⟩ | ⟨6, _⟩ | ⟨7, _⟩ | ⟨8, _⟩ | ⟨9, _⟩ | ⟨10, _⟩ | ⟨11, _⟩ | ⟨12, _⟩ | ⟨13, _⟩ | ⟨14, _⟩ | ⟨15, _⟩ | ⟨16, _⟩ | ⟨17, _⟩ | ⟨18, _⟩ | ⟨19, _⟩ => exact ⟨rfl, rfl⟩
    | ⟨n + 20, h⟩ => exact absurd h (by omega)
  exact this ⟨k, h⟩
theorem run_index_ops (k : Nat) (M : Array Value) (x y : Value) (w : World) (hk : k < 20) (hx : M[k * 2]? = some x) (hy : M[k * 2 + 1]? = some y) : (Instr.index 65 (.agg M) (.int .i64 (k : Int))).run Tryz.prog w = .ok (.agg #[x, y]) w := by
  have h0 : (0 : Int) ≤ (k : Int) ∧ (k : Int) < ((20 : Nat) : Int) := by omega
  have c9 : (sizeOf 64).run Tryz.prog w = .ok 2 w := by kernel_rfl
  simp [Instr.index, run_underlying Tryz.underlying65, asIntOf, h0, go_sem, c9]
  rw [if_pos hk]
  obtain ⟨l1, e1⟩ := Array.getElem?_eq_some_iff.1 hx
  obtain ⟨l2, e2⟩ := Array.getElem?_eq_some_iff.1 hy
  have : M.extract (k * 2) (k * 2 + 2) = #[x, y] := by
    apply Array.ext
    · rw [Array.size_extract]; simp; omega
    · intro i h1 h2
      rw [Array.getElem_extract]
      have h2' : i < 2 := h2
      match i, h2' with
      | 0, _ => simpa using e1
      | 1, _ => simpa using e2
  rw [this]
/-- The variable of the operators holds them. -/
def Ops (w : World) : Prop := w.rangeAt 0 0 opsV
theorem Ops_later {w v : World} (h : Ops w) (hb : Below w.heap.size w v) : Ops v := by
  have h0 : 0 < w.heap.size := World.block_lt_of_cell? w _ (h 0 _ rfl)
  exact fun j x hx => (hb.cell (p := ⟨0, 0 + j, none⟩) h0).trans (h j x hx)
theorem iGroup (s : ByteArray) (w : World) (hM : Ops w) : Calls Tryz.prog 28 #[.string s] w fun e w' => (∃ g : Int, e = .returned (.int .i64 g) ∧ decide (0 < g) = binL.contains (L s)) ∧ Below w.heap.size w w' := by
  go_enter Tryz.func28, Tryz.ntmps28
  go_wp2_with (refine wpList_load_mid rfl 65 (.global 0) rfl 0 0 rfl opsV _ hM Tryz.underlying65 rfl (by kernel_rfl) ?_)
  go_loopw [6] (fun i wr => ∃ k : Nat, k ≤ 20 ∧ i = .int .i64 k ∧ Below w.heap.size w wr ∧ ∀ j, j < k → (binL.getD j [] == L s) = false) (fun i wr => 20 - (intOf i).toNat)
  case atStart => exact ⟨0, Nat.zero_le _, rfl, brf _, fun j hj => absurd hj (Nat.not_lt_zero _)⟩
  case round =>
    obtain ⟨k, hk, rfl, hb, hno⟩ := hrel
    have HB := hide hb
    have HNO := hide hno
    clear hb hno
    by_cases hk2 : k < 20
    · have hix := fun v => run_index_ops k opsV.toArray _ _ v hk2 (opsV_at k hk2).1 (opsV_at k hk2).2
      have hgp : 0 < grpL.getD k 0 := by
        have : ∀ k : Fin 20, 0 < grpL.getD k.val 0 := by decide
        exact this ⟨k, hk2⟩
      have hmem : binL.getD k [] ∈ binL := by
        rw [List.getD_eq_getElem?_getD, List.getElem?_eq_getElem (show k < binL.length from hk2)]
        exact List.getElem_mem _
      have hq : ((S (binL.getD k [])).toList == s.toList) = (binL.getD k [] == L s) := by rw [toListL, toListL, L_S]
      cases hp : (binL.getD k [] == L s) with
      | true =>
        rw [hp] at hq
        have HC : Hid (binL.contains (L s) = true) := hide (by
          rw [List.contains_iff_mem]; rw [← (beq_iff_eq.1 hp)]; exact hmem)
        clear hp hmem
        generalize binL.getD k [] = m at hix hq
        generalize grpL.getD k 0 = g at hix hgp
        generalize opsV.toArray = M at *
        go_wp2
        exact bodyPost_ret (v := .int .i64 (g : Nat)) (by simp [results, Tryz.results28, go_sem]) rfl ⟨⟨_, rfl, by rw [unhide HC, decide_eq_true (by omega)]⟩, bal (unhide HB) _⟩
      | false =>
        rw [hp] at hq
        have HQ := hide hp
        clear hp hmem
        generalize hmm : binL.getD k [] = m at hix hq
        generalize grpL.getD k 0 = g at hix hgp
        generalize opsV.toArray = M at *
        go_wp2
        refine ⟨⟨k + 1, by omega, by go_num, bal (unhide HB) _, fun j hj => ?_⟩, by simp [intOf]; omega⟩
        by_cases hjk : j = k
        · subst hjk; exact unhide HQ
        · exact unhide HNO j (by omega)
    · obtain rfl : k = 20 := by omega
      have HC : Hid (binL.contains (L s) = false) := hide (by
        rw [← Bool.not_eq_true, List.contains_iff_mem]
        intro hm
        obtain ⟨j, hj, e⟩ := List.mem_iff_getElem.1 hm
        have := unhide HNO j hj
        rw [List.getD_eq_getElem?_getD, List.getElem?_eq_getElem hj] at this
        rw [show (some binL[j]).getD [] = binL[j] from rfl, e] at this
        simp at this)
      generalize opsV.toArray = M at *
      go_wp2
      exact bodyPost_ret (v := .int .i64 0) (by simp [results, Tryz.results28, go_sem]) rfl ⟨⟨_, rfl, by rw [unhide HC]; rfl⟩, unhide HB⟩
end Go.Proofs.YtlcpmbdckmdabaaGreatDoor
