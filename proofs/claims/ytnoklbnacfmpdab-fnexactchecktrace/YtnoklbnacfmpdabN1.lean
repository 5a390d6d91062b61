/- The specification's state of what is assumed. -/
import Derived.Test.YtnoklbnacfmpdabC3
import Derived.Test.YtnoklbnacfmpdabK0
import Derived.OwnWalk
import Derived.Laws.MakeOwn
namespace Go.Proofs.Ytnoklbnacfmpdab
open Go Go.RowKit Gs
set_option linter.unusedVariables false
set_option linter.unusedSimpArgs false
set_option maxRecDepth 100000
def iC (x : List Int) : Array Value := (x.map fun z => Value.int .i64 z).toArray
theorem iC_inj {x y : List Int} (h : iC x = iC y) : x = y := by
  unfold iC at h
  have h1 : x.map (fun z => Value.int .i64 z) = y.map (fun z => Value.int .i64 z) := by simpa using h
  exact List.map_inj_right (fun a b e => by injection e) |>.1 h1
theorem iC_cell {W : World} {b : Nat} {x : List Int} (h : W.heap[b]? = some (.cells (iC x) 3)) {i : Nat} {z : Int} (hz : x[i]? = some z) : W.cell? ⟨b, i, none⟩ = some (.int .i64 z) := by
  simp [World.cell?, h, iC, List.getElem?_map, hz]
theorem iC_set {W : World} {b i : Nat} {x : List Int} {z : Int} (h : W.heap[b]? = some (.cells (iC x) 3)) : (W.setCell ⟨b, i, none⟩ (.int .i64 z)).heap[b]? = some (.cells (iC (x.set i z)) 3) := by
  unfold World.setCell
  simp only
  rw [Array.getElem?_modify]
  simp [h, iC, List.map_set]
theorem iC_frz {W : World} {b i : Nat} {x : List Int} (h : W.heap[b]? = some (.cells (iC x) 3)) : W.frozen? ⟨b, i, none⟩ = false := by
  simp [World.frozen?, h]
theorem heap_al {W : World} {o x : Obj} {k : Nat} (h : W.heap[k]? = some x) : (W.alloc o).heap[k]? = some x :=
  (Below.heap_alloc _ _ _ (Array.getElem?_eq_some_iff.1 h).1).trans h
theorem heap_new (w : World) (o : Obj) : (w.alloc o).heap[w.heap.size]? = some o := by
  show (w.heap.push o)[w.heap.size]? = some o
  simp
theorem getD_some {vs : List Int} {i : Nat} (h : i < vs.length) : vs[i]? = some (vs.getD i 0) := by
  rw [List.getD_eq_getElem?_getD, List.getElem?_eq_getElem h]; rfl
/-- The state in memory. -/
structure SM (B n b vb : Nat) (W : World) (vs : List Int) (bad : Bool) : Prop where
  hb : B ≤ b
  hv : B ≤ vb
  ne : b ≠ vb
  c0 : W.cell? ⟨b, 0, none⟩ = some (.slice (some ⟨vb, 0, none⟩) (n + 1) (n + 1))
  c1 : W.cell? ⟨b, 1, none⟩ = some (.bool bad)
  f1 : W.frozen? ⟨b, 1, none⟩ = false
  vals : W.heap[vb]? = some (.cells (iC vs) 3)
  len : vs.length = n + 1
theorem SM.set {B n b vb : Nat} {W : World} {vs : List Int} {bad : Bool} (h : SM B n b vb W vs bad) (i : Nat) (x : Int) : SM B n b vb (W.setCell ⟨vb, i, none⟩ (.int .i64 x)) (vs.set i x) bad := by
  have hk : (W.setCell ⟨vb, i, none⟩ (.int .i64 x)).heap[b]? = W.heap[b]? := Below.heap_setCell W ⟨vb, i, none⟩ _ b h.ne
  exact ⟨h.hb, h.hv, h.ne, (World.cell?_of_block (a := ⟨b, 0, none⟩) hk).trans h.c0, (World.cell?_of_block (a := ⟨b, 1, none⟩) hk).trans h.c1, (World.frozen?_of_block (a := ⟨b, 1, none⟩) hk).trans h.f1, iC_set h.vals, by simpa using h.len⟩
theorem SM.fail {B n b vb : Nat} {W : World} {vs : List Int} {bad : Bool} (h : SM B n b vb W vs bad) : SM B n b vb (W.setCell ⟨b, 1, none⟩ (.bool true)) vs true := by
  refine ⟨h.hb, h.hv, h.ne, ?_, World.cell?_setCell_same (w := W) (a := ⟨b, 1, none⟩) (v := .bool true) h.c1, by simpa using h.f1, (Below.heap_setCell W ⟨b, 1, none⟩ _ vb (Ne.symm h.ne)).trans h.vals, h.len⟩
  rw [World.cell?_setCell_other (w := W) (a := ⟨b, 1, none⟩) (b := ⟨b, 0, none⟩) (v := .bool true) (ne_addr (.inr (by decide)))]
  exact h.c0
theorem make_ints (T : TypeId) (hT : Try.prog.underlying T = some (.slice 3)) (n : Nat) (hn : n ≤ 4194304) : ∀ W : World, (Instr.makeSlice T (.int .i64 (n : Int)) (.int .i64 (n : Int))).run Try.prog W = .ok (.slice (some ⟨W.heap.size, 0, none⟩) n n) (W.alloc (.cells (iC (zeros n)) 3)) := by
  have info3 : (Try.prog.info? 3).map (fun i => (i.zero, i.size, i.bytes)) = some (some (.int .i64 0), 1, 8) := by kernel_rfl
  obtain ⟨i0, hi, hz0, hz1, hz2⟩ := info_parts info3
  intro W
  have hr := run_make (P := Try.prog) W T 3 i0 _ hT hi hz0 .i64 .i64 n n (by omega) (Int.le_refl _) (by rw [hz2]; omega) (by omega)
  rw [hr, hz1]
  have e : madeCells (Value.int .i64 0).cells (n * 1) = iC (zeros n) := by
    apply Array.ext'
    unfold iC zeros
    rw [List.map_replicate]
    refine List.ext_getElem? fun i => ?_
    rw [Array.getElem?_toList, List.getElem?_toArray, List.getElem?_replicate]
    by_cases h : i < n
    · simp [madeCells, h, Nat.mod_one, Value.cells]
    · simp [madeCells, h]
  simp only [Nat.mul_one, Int.toNat_natCast] at e ⊢
  rw [e]
set_option maxHeartbeats 3200000 in
theorem sNew (n : Nat) (w : World) (hn : n ≤ 2048) : Calls Try.prog 12 #[.int .i64 (n : Int)] w fun e w' => (∃ b vb, e = .returned (.pointer (some ⟨b, 0, none⟩)) ∧ SM w.heap.size n b vb w' (zeros (n + 1)) false) ∧ Below w.heap.size w w' := by
  have hmk := make_ints 28 Try.underlying28 (n + 1) (by omega)
  have e1 : (n : Int) + 1 = ((n + 1 : Nat) : Int) := by omega
  obtain ⟨m, hm⟩ : ∃ m : Nat, m = n + 1 := ⟨_, rfl⟩
  rw [← hm] at hmk e1
  have hmb : m ≤ 2049 := by omega
  have HM := hide hm
  clear hm
  go_enter Try.func12, Try.ntmps12
  go_wp2
  have hsz : (w.alloc (.cells (iC (zeros m)) 3)).heap.size = w.heap.size + 1 := by simp
  refine bodyPost_ret (v := .pointer (some ⟨w.heap.size + 1, 0, none⟩)) (by simp [results, Try.results12, go_sem]) rfl ⟨⟨w.heap.size + 1, w.heap.size, rfl, ?_⟩, bal (bal (brf w) _) _⟩
  rw [← unhide HM]
  have hnew : ∀ i, ((w.alloc (.cells (iC (zeros m)) 3)).alloc (.cells #[.slice (some ⟨w.heap.size, 0, none⟩) m m, .bool false] 36)).cell? ⟨w.heap.size + 1, i, none⟩ = #[Value.slice (some ⟨w.heap.size, 0, none⟩) m m, .bool false][i]? := fun i => by
    rw [← hsz, World.cell?_alloc_new]
  refine ⟨by omega, Nat.le_refl _, by omega, ?_, ?_, ?_, heap_al (heap_new w _), by rw [unhide HM]; simp [zeros]⟩
  · rw [hnew, ← unhide HM]; rfl
  · rw [hnew]; rfl
  · rw [← hsz]; simp
set_option maxHeartbeats 3200000 in
theorem sOf {B n b vb : Nat} {W : World} {vs : List Int} {bad : Bool} (h : SM B n b vb W vs bad) (hv : Vals n vs) {l : Int} (hl : Lit n l) (hn : n ≤ 2048) : Calls Try.prog 22 #[.pointer (some ⟨b, 0, none⟩), .int .i64 l] W fun e w' => e = .returned (.int .i64 (val vs l)) ∧ w' = W := by
  have q0 := h.c0
  obtain ⟨h0, h1, h2⟩ := hl
  have hr := hv.getD l.natAbs
  have hk := iC_cell h.vals (getD_some (i := l.natAbs) (by rw [h.len]; omega))
  go_enter Try.func22, Try.ntmps22
  by_cases hneg : l < 0
  · have HV := hide (val_negl (vs := vs) hneg)
    obtain ⟨k, hk1⟩ : ∃ k : Nat, k = l.natAbs := ⟨_, rfl⟩
    rw [← hk1] at hk hr HV
    have e1 : -l = (k : Int) := by omega
    have k1 : (0 : Int) ≤ (k : Int) := by omega
    have k2 : (k : Int) < ((n + 1 : Nat) : Int) := by omega
    generalize vs.getD k 0 = x at *
    clear hk1 h hv
    go_wp2
    exact bodyPost_ret (v := .int .i64 (-x)) (by simp [results, Try.results22, go_sem]) rfl ⟨by rw [unhide HV], rfl⟩
  · have HV := hide (val_pos (vs := vs) hneg)
    obtain ⟨k, hk1⟩ : ∃ k : Nat, k = l.natAbs := ⟨_, rfl⟩
    rw [← hk1] at hk hr HV
    have e1 : l = (k : Int) := by omega
    have k1 : (0 : Int) ≤ (k : Int) := by omega
    have k2 : (k : Int) < ((n + 1 : Nat) : Int) := by omega
    generalize vs.getD k 0 = x at *
    clear hk1 h hv
    subst e1
    go_wp2
    exact bodyPost_ret (v := .int .i64 x) (by simp [results, Try.results22, go_sem]) rfl ⟨by rw [unhide HV], rfl⟩
set_option maxHeartbeats 3200000 in
theorem sAssume {B n b vb : Nat} {w W : World} {vs : List Int} {bad : Bool} (h : SM B n b vb W vs bad) (hb : Below B w W) (hv : Vals n vs) {l : Int} (hl : Lit n l) (hn : n ≤ 2048) : Calls Try.prog 13 #[.pointer (some ⟨b, 0, none⟩), .int .i64 l] W fun e w' => e = .returned (.tuple #[]) ∧ ((val vs l = -1 ∧ SM B n b vb w' vs true) ∨ (val vs l ≠ -1 ∧ SM B n b vb w' (put vs l) bad)) ∧ Below B w w' := by
  have HO := hide (sOf h hv hl hn)
  have q0 := h.c0
  have q1 := h.c1
  have q2 := h.f1
  have hthree := hv.val l
  have HB := hide (show Below B w (W.setCell ⟨b, 1, none⟩ (.bool true)) from hb.setCell (p := ⟨b, 1, none⟩) h.hb _)
  have HF := hide h.fail
  have hk := iC_cell h.vals (getD_some (i := l.natAbs) (by have := hl.vr; unfold vr at this; rw [h.len]; omega))
  have hfz := iC_frz (i := l.natAbs) h.vals
  have HS := hide (h.set l.natAbs (sgn l))
  have HB2 := hide (show Below B w (W.setCell ⟨vb, l.natAbs, none⟩ (.int .i64 (sgn l))) from hb.setCell (p := ⟨vb, l.natAbs, none⟩) h.hv _)
  obtain ⟨h0, h1, h2⟩ := hl
  obtain ⟨r, hr⟩ : ∃ r, r = val vs l := ⟨_, rfl⟩
  rw [← hr] at hthree HO ⊢
  generalize vs.getD l.natAbs 0 = x at *
  clear h hv hr hb
  go_enter Try.func13, Try.ntmps13
  go_wp2_with fail
  refine (unhide HO).mono ?_
  rintro e W1 ⟨rfl, hw⟩
  have hw' := hw.symm
  subst hw'
  by_cases e : r = -1
  · subst e
    go_wp2
    exact bodyPost_ret (v := .tuple #[]) (by simp [results, Try.results13, go_sem]) rfl ⟨rfl, unhide HF, unhide HB⟩
  · have e' : (r == -1) = false := by simpa using e
    by_cases hneg : l < 0
    · have hs : sgn l = -1 := by unfold sgn; rw [if_pos hneg]
      obtain ⟨k, hk1⟩ : ∃ k : Nat, k = l.natAbs := ⟨_, rfl⟩
      have HP : Hid (put vs l = vs.set k (-1)) := hide (by unfold put; rw [hs, hk1])
      rw [← hk1] at hk hfz HS HB2
      rw [hs] at HS HB2
      have e1 : -l = (k : Int) := by omega
      have k1 : (0 : Int) ≤ (k : Int) := by omega
      have k2 : (k : Int) < ((n + 1 : Nat) : Int) := by omega
      clear hk1 hs
      go_wp2
      exact bodyPost_end (v := .tuple #[]) (by simp [results, Try.results13, go_sem]) rfl ⟨rfl, .inr ⟨e, by rw [unhide HP]; exact unhide HS⟩, unhide HB2⟩
    · have hs : sgn l = 1 := by unfold sgn; rw [if_neg hneg]
      obtain ⟨k, hk1⟩ : ∃ k : Nat, k = l.natAbs := ⟨_, rfl⟩
      have HP : Hid (put vs l = vs.set k 1) := hide (by unfold put; rw [hs, hk1])
      rw [← hk1] at hk hfz HS HB2
      rw [hs] at HS HB2
      have e1 : l = (k : Int) := by omega
      have k1 : (0 : Int) ≤ (k : Int) := by omega
      have k2 : (k : Int) < ((n + 1 : Nat) : Int) := by omega
      clear hk1 hs
      subst e1
      go_wp2
      exact bodyPost_end (v := .tuple #[]) (by simp [results, Try.results13, go_sem]) rfl ⟨rfl, .inr ⟨e, by rw [unhide HP]; exact unhide HS⟩, unhide HB2⟩
end Go.Proofs.Ytnoklbnacfmpdab
