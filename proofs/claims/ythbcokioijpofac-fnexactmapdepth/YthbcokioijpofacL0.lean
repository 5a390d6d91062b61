/- The depths of a mapped design's sources: the mathematics. -/
import Derived.Test.YthbcokioijpofacLW
namespace Go.Proofs.Ythbcokioijpofac
open Go Go.RowKit Gs
set_option linter.unusedVariables false
set_option maxRecDepth 100000
theorem max_if (d l : Int) : max d l = if d < l then l else d := by split <;> omega
/-- The greatest of some sources' depths. -/
def mxV (vs : List Int) (d : Int) (xs : List Int) : Int := xs.foldl (fun d x => max d (vs.getD x.toNat 0)) d
theorem mxV_step (vs : List Int) (d : Int) {xs : List Int} {k : Nat} {x : Int} (h : xs[k]? = some x) : mxV vs d (xs.take (k + 1)) = max (mxV vs d (xs.take k)) (vs.getD x.toNat 0) := by
  unfold mxV
  rw [List.take_add_one, h, List.foldl_append]; rfl
def stM (s : List Int × Int) (l : Lut) : List Int × Int := (s.1 ++ [mxV s.1 0 l.inp + 1], max s.2 (mxV s.1 0 l.inp + 1))
/-- The depths of all sources, and the greatest one of a table. -/
def runM (n : Nat) (xs : List Lut) : List Int × Int := xs.foldl stM (List.replicate n 0, 0)
theorem runM_step (n : Nat) {xs : List Lut} {k : Nat} {x : Lut} (h : xs[k]? = some x) : runM n (xs.take (k + 1)) = stM (runM n (xs.take k)) x := by
  unfold runM
  rw [List.take_add_one, h, List.foldl_append]; rfl
/-- All depths lie from 0 to a bound. -/
def LBd (N : Int) (vs : List Int) : Prop := ∀ (i : Nat) y, vs[i]? = some y → 0 ≤ y ∧ y ≤ N
theorem LBd.get {N : Int} {vs : List Int} (h : LBd N vs) (hN : 0 ≤ N) (i : Nat) : 0 ≤ vs.getD i 0 ∧ vs.getD i 0 ≤ N := by
  rw [List.getD_eq_getElem?_getD]
  cases e : vs[i]? with
  | none => exact ⟨Int.le_refl _, hN⟩
  | some y => exact h _ _ e
theorem mxV_bd {N : Int} {vs : List Int} (h : LBd N vs) (hN : 0 ≤ N) : ∀ (xs : List Int) (d : Int), 0 ≤ d → d ≤ N → 0 ≤ mxV vs d xs ∧ mxV vs d xs ≤ N
  | [], d, h0, h1 => ⟨h0, h1⟩
  | x :: r, d, h0, h1 => by
    have := h.get hN x.toNat
    exact mxV_bd h hN r (max d (vs.getD x.toNat 0)) (by omega) (by omega)
theorem runM_bd (n : Nat) (xs : List Lut) : ∀ k, k ≤ xs.length → (runM n (xs.take k)).1.length = n + k ∧ LBd (k : Int) (runM n (xs.take k)).1 ∧ 0 ≤ (runM n (xs.take k)).2 ∧ (runM n (xs.take k)).2 ≤ (k : Int)
  | 0, _ => by
    unfold runM
    refine ⟨by simp, fun i y hy => ?_, by simp, by simp⟩
    simp only [List.take_zero, List.foldl_nil] at hy
    have := List.eq_of_mem_replicate (List.mem_of_getElem? hy)
    subst this
    simp
  | k + 1, hk => by
    obtain ⟨h1, h2, h3, h4⟩ := runM_bd n xs k (by omega)
    rw [runM_step n (List.getElem?_eq_getElem (by omega))]
    have hm := mxV_bd h2 (by omega) xs[k].inp 0 (Int.le_refl _) (by omega)
    unfold stM
    refine ⟨by simp [h1]; omega, fun i y hy => ?_, by simp only; omega, by simp only; omega⟩
    rw [List.getElem?_append] at hy
    split at hy
    · have := h2 i y hy; omega
    · rw [List.getElem?_singleton] at hy
      split at hy
      · injection hy with hy; subst hy; omega
      · cases hy
/-- What MapDepth answers. -/
def depthM (x : Mapped) : Int := if mapI x then (runM (x.ins.length + x.regs.length) x.luts).2 else -1
/-- What MapOK's yes says of counts and tables. -/
structure FitM (x : Mapped) : Prop where
  first : x.ins.length + x.regs.length ≤ 2048
  luts : x.luts.length ≤ 1024
  inp : ∀ (k : Nat) l, x.luts[k]? = some l → l.inp.length ≤ 4 ∧ ∀ (j : Nat) y, l.inp[j]? = some y → 0 ≤ y ∧ y < ((x.ins.length + x.regs.length + k : Nat) : Int)
theorem FitM.of {x : Mapped} (h : mapI x = true) : FitM x := by
  unfold mapI srcsB countsA countsN at h
  simp only [Bool.and_eq_true, decide_eq_true_eq] at h
  obtain ⟨⟨⟨⟨⟨h3, h1⟩, ⟨h02, h4⟩, h5⟩, hl, _⟩, _⟩, _⟩ := h
  refine ⟨h02, h3, fun k l hk => ?_⟩
  have hlt : k < x.luts.length := (List.getElem?_eq_some_iff.1 hk).1
  have hb := upB_at hl hlt
  rw [lutAt_at hk] at hb
  unfold lutB at hb
  simp only [Bool.and_eq_true, decide_eq_true_eq] at hb
  obtain ⟨b1, _, _, b4⟩ := hb
  refine ⟨b1, fun j y hj => ?_⟩
  have hi := upB_at b4 (List.getElem?_eq_some_iff.1 hj).1
  rw [inAt_at hj] at hi
  unfold plB at hi
  simp only [Bool.and_eq_true, decide_eq_true_eq] at hi
  exact hi.1
theorem RMapped.open6 {x : Mapped} {u : List Value} {w : World} {B : Nat} (hr : RMapped w B x u) : ∃ s0 s1 s2 s3 s4 s5 c0 c1 c2 c3 c4 c5, u = [.slice s0 x.ins.length c0, .slice s1 x.clocks.length c1, .slice s2 x.regs.length c2, .slice s3 x.luts.length c3, .slice s4 x.outs.length c4, .slice s5 x.checks.length c5] ∧ RS 4 RMapReg w B x.regs (.slice s2 x.regs.length c2) ∧ RS 2 RLut w B x.luts (.slice s3 x.luts.length c3) ∧ RS 2 RPort w B x.outs (.slice s4 x.outs.length c4) ∧ RS 2 RPort w B x.checks (.slice s5 x.checks.length c5) := by
  obtain ⟨v0, v1, v2, v3, v4, v5, rfl, h0, h1, h2, h3, h4, h5⟩ := hr
  obtain ⟨a0, c0, e0⟩ := h0.slice
  obtain ⟨a1, c1, e1⟩ := h1.slice
  obtain ⟨a2, c2, e2⟩ := h2.slice
  obtain ⟨a3, c3, e3⟩ := h3.slice
  obtain ⟨a4, c4, e4⟩ := h4.slice
  obtain ⟨a5, c5, e5⟩ := h5.slice
  subst e0 e1 e2 e3 e4 e5
  exact ⟨_, _, _, _, _, _, _, _, _, _, _, _, rfl, h2, h3, h4, h5⟩
theorem lut_cells {xs : List Lut} {s : Option Addr} {l c : Nat} {w : World} (h : RS 2 RLut w 0 xs (.slice s l c)) : ∀ (i : Nat) x, xs[i]? = some x → ∃ b o a n, s = some ⟨b, o, none⟩ ∧ w.cell? ⟨b, o + i * 2, none⟩ = some (.slice a x.inp.length n) ∧ w.cell? ⟨b, o + i * 2 + 1, none⟩ = some (.int .i64 x.table) ∧ ∀ (j : Nat) y, x.inp[j]? = some y → ∃ b' o', a = some ⟨b', o', none⟩ ∧ w.cell? ⟨b', o' + j, none⟩ = some (.int .i64 y) := by
  intro i x hx
  rcases h.open with ⟨rfl, _⟩ | ⟨b, o, c', hv, _, _, _, he⟩
  · simp at hx
  · injection hv with e1 e2 e3
    obtain ⟨u, hu, hat, v0, hux, hrs⟩ := he i x hx
    subst hux
    obtain ⟨a, n, rfl⟩ := hrs.slice
    refine ⟨b, o, a, n, e1, by simpa using hat.get (j := 0) rfl, by simpa using hat.get (j := 1) rfl, fun j y hj => ?_⟩
    rcases hrs.open with ⟨e, _⟩ | ⟨b', o', c'', hv', _, _, _, he'⟩
    · rw [e] at hj; simp at hj
    · injection hv' with g1 g2 g3
      obtain ⟨u', hu', hat', hux'⟩ := he' j y hj
      subst hux'
      exact ⟨b', o', g1, by simpa using hat'.get (j := 0) rfl⟩
def zerosV (n : Nat) : List Int := List.replicate n 0
theorem zeros_cells (n : Nat) : (madeCells #[Value.int .i64 0] n).toList = (zerosV n).map (fun x => Value.int .i64 x) := by
  unfold zerosV
  rw [List.map_replicate]
  refine List.ext_getElem? fun i => ?_
  rw [Array.getElem?_toList, List.getElem?_replicate]
  by_cases h : i < n
  · simp [madeCells, h, Nat.mod_one]
  · simp [madeCells, h]
theorem make_ints (T : TypeId) (hT : Try.prog.underlying T = some (.slice 3)) (n : Nat) (hn : n ≤ 4194304) : ∃ M : Array Value, M.toList = (zerosV n).map (fun x => Value.int .i64 x) ∧ ∀ W : World, (Instr.makeSlice T (.int .i64 (n : Int)) (.int .i64 (n : Int))).run Try.prog W = .ok (.slice (some ⟨W.heap.size, 0, none⟩) n n) (W.alloc (.cells M 3)) := by
  obtain ⟨i0, hi, hz0, hz1, hz2⟩ := info_parts info3
  refine ⟨madeCells #[.int .i64 0] n, zeros_cells n, fun W => ?_⟩
  have hr := run_make (P := Try.prog) W T 3 i0 _ hT hi hz0 .i64 .i64 n n (by omega) (Int.le_refl _) (by rw [hz2]; omega) (by omega)
  rw [hr, hz1]
  simp
  rfl
theorem OI_made {W : World} {B n : Nat} {M : Array Value} (hM : M.toList = (zerosV n).map (fun x => Value.int .i64 x)) (hn : n ≤ 4194304) (h : B ≤ W.heap.size) : OI B (W.alloc (.cells M 3)) (.slice (some ⟨W.heap.size, 0, none⟩) n n) (zerosV n) := by
  have hz : (zerosV n).length = n := by unfold zerosV; simp
  have hs : M.size = n := by rw [← Array.length_toList, hM, List.length_map, hz]
  unfold OI
  rw [hz]
  refine ⟨by rw [List.length_map, hz]; omega, .inr ⟨W.heap.size, n, M, rfl, h, heap_alloc_new W _, Nat.le_refl _, by unfold maxLen; omega, by omega, ?_⟩⟩
  rw [List.take_of_length_le (by rw [Array.length_toList]; omega), hM]
theorem OI.some {B : Nat} {v : Value} {xs : List Int} {W : World} (h : OI B W v xs) (hne : 0 < xs.length) : ∃ g c, v = .slice (some ⟨g, 0, none⟩) xs.length c ∧ ∀ (i : Nat) y, xs[i]? = some y → W.cell? ⟨g, i, none⟩ = some (.int .i64 y) := by
  have hc := fun g hg => World.ownsRow.cells h (g := g) hg
  rcases h.2 with ⟨rfl, hn⟩ | ⟨g, cap, cur, rfl, hb, hg, hlc, hm, _⟩
  · omega
  · refine ⟨g, cap, rfl, fun i y hy => ?_⟩
    have := hc g rfl i (.int .i64 y) (by rw [List.getElem?_map, hy]; rfl)
    rw [Addr.add_lit] at this
    simpa using this
end Go.Proofs.Ythbcokioijpofac
