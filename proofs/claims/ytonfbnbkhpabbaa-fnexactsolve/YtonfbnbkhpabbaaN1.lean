/- The specification's state of what is assumed. -/
import Derived.Test.YtonfbnbkhpabbaaC3
import Derived.Test.YtonfbnbkhpabbaaK0
import Derived.OwnWalk
import Derived.Laws.MakeOwn
namespace Go.Proofs.Ytonfbnbkhpabbaa
open Go Go.RowKit Gs
set_option linter.unusedVariables false
set_option linter.unusedSimpArgs false
set_option maxRecDepth 100000
def iC (x : List Int) : Array Value := (x.map fun z => Value.int .i64 z).toArray
theorem iC_inj {x y : List Int} (h : iC x = iC y) : x = y := by
  unfold iC at h
  have h1 : x.map (fun z => Value.int .i64 z) = y.map (fun z => Value.int .i64 z) := by simpa using h
  exact List.map_inj_right (fun a b e => by injection e) |>.1 h1
theorem iC_cell {W : World} {b : Nat} {x : List Int} (h : W.heap[b]? = some (.cells (iC x) 3)) {i : Nat} {z : Int} (hz : x[i]? = some z) : W.cell? ⟨b, i, none⟩ = some (.int .i64 z) := by
  simp [World.cell?, h, iC, List.getElem?_map, hz]
theorem iC_set {W : World} {b i : Nat} {x : List Int} {z : Int} (h : W.heap[b]? = some (.cells (iC x) 3)) : (W.setCell ⟨b, i, none⟩ (.int .i64 z)).heap[b]? = some (.cells (iC (x.set i z)) 3) := by
  unfold World.setCell
  simp only
  rw [Array.getElem?_modify]
  simp [h, iC, List.map_set]
theorem iC_frz {W : World} {b i : Nat} {x : List Int} (h : W.heap[b]? = some (.cells (iC x) 3)) : W.frozen? ⟨b, i, none⟩ = false := by
  simp [World.frozen?, h]
theorem heap_al {W : World} {o x : Obj} {k : Nat} (h : W.heap[k]? = some x) : (W.alloc o).heap[k]? = some x :=
  (Below.heap_alloc _ _ _ (Array.getElem?_eq_some_iff.1 h).1).trans h
theorem heap_new (w : World) (o : Obj) : (w.alloc o).heap[w.heap.size]? = some o := by
  show (w.heap.push o)[w.heap.size]? = some o
  simp
theorem getD_some {vs : List Int} {i : Nat} (h : i < vs.length) : vs[i]? = some (vs.getD i 0) := by
  rw [List.getD_eq_getElem?_getD, List.getElem?_eq_getElem h]; rfl
/-- The state in memory. -/
structure SM (B n b vb : Nat) (W : World) (vs : List Int) (bad : Bool) : Prop where
  hb : B ≤ b
  hv : B ≤ vb
  ne : b ≠ vb
  c0 : W.cell? ⟨b, 0, none⟩ = some (.slice (some ⟨vb, 0, none⟩) (n + 1) (n + 1))
  c1 : W.cell? ⟨b, 1, none⟩ = some (.bool bad)
  f1 : W.frozen? ⟨b, 1, none⟩ = false
  vals : W.heap[vb]? = some (.cells (iC vs) 3)
  len : vs.length = n + 1
theorem SM.set {B n b vb : Nat} {W : World} {vs : List Int} {bad : Bool} (h : SM B n b vb W vs bad) (i : Nat) (x : Int) : SM B n b vb (W.setCell ⟨vb, i, none⟩ (.int .i64 x)) (vs.set i x) bad := by
  have hk : (W.setCell ⟨vb, i, none⟩ (.int .i64 x)).heap[b]? = W.heap[b]? := Below.heap_setCell W ⟨vb, i, none⟩ _ b h.ne
  exact ⟨h.hb, h.hv, h.ne, (World.cell?_of_block (a := ⟨b, 0, none⟩) hk).trans h.c0, (World.cell?_of_block (a := ⟨b, 1, none⟩) hk).trans h.c1, (World.frozen?_of_block (a := ⟨b, 1, none⟩) hk).trans h.f1, iC_set h.vals, by simpa using h.len⟩
theorem SM.fail {B n b vb : Nat} {W : World} {vs : List Int} {bad : Bool} (h : SM B n b vb W vs bad) : SM B n b vb (W.setCell ⟨b, 1, none⟩ (.bool true)) vs true := by
  refine ⟨h.hb, h.hv, h.ne, ?_, World.cell?_setCell_same (w := W) (a := ⟨b, 1, none⟩) (v := .bool true) h.c1, by simpa using h.f1, (Below.heap_setCell W ⟨b, 1, none⟩ _ vb (Ne.symm h.ne)).trans h.vals, h.len⟩
  rw [World.cell?_setCell_other (w := W) (a := ⟨b, 1, none⟩) (b := ⟨b, 0, none⟩) (v := .bool true) (ne_addr (.inr (by decide)))]
  exact h.c0
theorem make_ints (T : TypeId) (hT : Try.prog.underlying T = some (.slice 3)) (n : Nat) (hn : n ≤ 4194304) : ∀ W : World, (Instr.makeSlice T (.int .i64 (n : Int)) (.int .i64 (n : Int))).run Try.prog W = .ok (.slice (some ⟨W.heap.size, 0, none⟩) n n) (W.alloc (.cells (iC (zeros n)) 3)) := by
  have info3 : (Try.prog.info? 3).map (fun i => (i.zero, i.size, i.bytes)) = some (some (.int .i64 0), 1, 8) := by kernel_rfl
  obtain ⟨i0, hi, hz0, hz1, hz2⟩ := info_parts info3
  intro W
  have hr := run_make (P := Try.prog) W T 3 i0 _ hT hi hz0 .i64 .i64 n n (by omega) (Int.le_refl _) (by rw [hz2]; omega) (by omega)
  rw [hr, hz1]
  have e : madeCells (Value.int .i64 0).cells (n * 1) = iC (zeros n) := by
    apply Array.ext'
    unfold iC zeros
    rw [List.map_replicate]
    refine List.ext_getElem? fun i => ?_
    rw [Array.getElem?_toList, List.getElem?_toArray, List.getElem?_replicate]
    by_cases h : i < n
    · simp [madeCells, h, Nat.mod_one, Value.cells]
    · simp [madeCells, h]
  simp only [Nat.mul_one, Int.toNat_natCast] at e ⊢
  rw [e]
set_option maxHeartbeats 3200000 in
theorem sNew (n : Nat) (w : World) (hn : n ≤ 2048) : Calls Try.prog 27 #[.int .i64 (n : Int)] w fun e w' => (∃ b vb, e = .returned (.pointer (some ⟨b, 0, none⟩)) ∧ SM w.heap.size n b vb w' (zeros (n + 1)) false) ∧ Below w.heap.size w w' := by
  have hmk := make_ints 24 Try.underlying24 (n + 1) (by omega)
  have e1 : (n : Int) + 1 = ((n + 1 : Nat) : Int) := by omega
  obtain ⟨m, hm⟩ : ∃ m : Nat, m = n + 1 := ⟨_, rfl⟩
  rw [← hm] at hmk e1
  have hmb : m ≤ 2049 := by omega
  have HM := hide hm
  clear hm
  go_enter Try.func27, Try.ntmps27
  go_wp2
  have hsz : (w.alloc (.cells (iC (zeros m)) 3)).heap.size = w.heap.size + 1 := by simp
  refine bodyPost_ret (v := .pointer (some ⟨w.heap.size + 1, 0, none⟩)) (by simp [results, Try.results27, go_sem]) rfl ⟨⟨w.heap.size + 1, w.heap.size, rfl, ?_⟩, bal (bal (brf w) _) _⟩
  rw [← unhide HM]
  have hnew : ∀ i, ((w.alloc (.cells (iC (zeros m)) 3)).alloc (.cells #[.slice (some ⟨w.heap.size, 0, none⟩) m m, .bool false] 60)).cell? ⟨w.heap.size + 1, i, none⟩ = #[Value.slice (some ⟨w.heap.size, 0, none⟩) m m, .bool false][i]? := fun i => by
    rw [← hsz, World.cell?_alloc_new]
  refine ⟨by omega, Nat.le_refl _, by omega, ?_, ?_, ?_, heap_al (heap_new w _), by rw [unhide HM]; simp [zeros]⟩
  · rw [hnew, ← unhide HM]; rfl
  · rw [hnew]; rfl
  · rw [← hsz]; simp
set_option maxHeartbeats 3200000 in
theorem sOf {B n b vb : Nat} {W : World} {vs : List Int} {bad : Bool} (h : SM B n b vb W vs bad) (hv : Vals n vs) {l : Int} (hl : Lit n l) (hn : n ≤ 2048) : Calls Try.prog 38 #[.pointer (some ⟨b, 0, none⟩), .int .i64 l] W fun e w' => e = .returned (.int .i64 (val vs l)) ∧ w' = W := by
  have q0 := h.c0
  obtain ⟨h0, h1, h2⟩ := hl
  have hr := hv.getD l.natAbs
  have hk := iC_cell h.vals (getD_some (i := l.natAbs) (by rw [h.len]; omega))
  go_enter Try.func38, Try.ntmps38
  by_cases hneg : l < 0
  · have HV := hide (val_negl (vs := vs) hneg)
    obtain ⟨k, hk1⟩ : ∃ k : Nat, k = l.natAbs := ⟨_, rfl⟩
    rw [← hk1] at hk hr HV
    have e1 : -l = (k : Int) := by omega
    have k1 : (0 : Int) ≤ (k : Int) := by omega
    have k2 : (k : Int) < ((n + 1 : Nat) : Int) := by omega
    generalize vs.getD k 0 = x at *
    clear hk1 h hv
    go_wp2
    exact bodyPost_ret (v := .int .i64 (-x)) (by simp [results, Try.results38, go_sem]) rfl ⟨by rw [unhide HV], rfl⟩
  · have HV := hide (val_pos (vs := vs) hneg)
    obtain ⟨k, hk1⟩ : ∃ k : Nat, k = l.natAbs := ⟨_, rfl⟩
    rw [← hk1] at hk hr HV
    have e1 : l = (k : Int) := by omega
    have k1 : (0 : Int) ≤ (k : Int) := by omega
    have k2 : (k : Int) < ((n + 1 : Nat) : Int) := by omega
    generalize vs.getD k 0 = x at *
    clear hk1 h hv
    subst e1
    go_wp2
    exact bodyPost_ret (v := .int .i64 x) (by simp [results, Try.results38, go_sem]) rfl ⟨by rw [unhide HV], rfl⟩
set_option maxHeartbeats 3200000 in
theorem sAssume {B n b vb : Nat} {w W : World} {vs : List Int} {bad : Bool} (h : SM B n b vb W vs bad) (hb : Below B w W) (hv : Vals n vs) {l : Int} (hl : Lit n l) (hn : n ≤ 2048) : Calls Try.prog 28 #[.pointer (some ⟨b, 0, none⟩), .int .i64 l] W fun e w' => e = .returned (.tuple #[]) ∧ ((val vs l = -1 ∧ SM B n b vb w' vs true) ∨ (val vs l ≠ -1 ∧ SM B n b vb w' (put vs l) bad)) ∧ Below B w w' := by
  have HO := hide (sOf h hv hl hn)
  have q0 := h.c0
  have q1 := h.c1
  have q2 := h.f1
  have hthree := hv.val l
  have HB := hide (show Below B w (W.setCell ⟨b, 1, none⟩ (.bool true)) from hb.setCell (p := ⟨b, 1, none⟩) h.hb _)
  have HF := hide h.fail
  have hk := iC_cell h.vals (getD_some (i := l.natAbs) (by have := hl.vr; unfold vr at this; rw [h.len]; omega))
  have hfz := iC_frz (i := l.natAbs) h.vals
  have HS := hide (h.set l.natAbs (sgn l))
  have HB2 := hide (show Below B w (W.setCell ⟨vb, l.natAbs, none⟩ (.int .i64 (sgn l))) from hb.setCell (p := ⟨vb, l.natAbs, none⟩) h.hv _)
  obtain ⟨h0, h1, h2⟩ := hl
  obtain ⟨r, hr⟩ : ∃ r, r = val vs l := ⟨_, rfl⟩
  rw [← hr] at hthree HO ⊢
  generalize vs.getD l.natAbs 0 = x at *
  clear h hv hr hb
  go_enter Try.func28, Try.ntmps28
  go_wp2_with fail
  refine (unhide HO).mono ?_
  rintro e W1 ⟨rfl, hw⟩
  have hw' := hw.symm
  subst hw'
  by_cases e : r = -1
  · subst e
    go_wp2
    exact bodyPost_ret (v := .tuple #[]) (by simp [results, Try.results28, go_sem]) rfl ⟨rfl, unhide HF, unhide HB⟩
  · have e' : (r == -1) = false := by simpa using e
    by_cases hneg : l < 0
    · have hs : sgn l = -1 := by unfold sgn; rw [if_pos hneg]
      obtain ⟨k, hk1⟩ : ∃ k : Nat, k = l.natAbs := ⟨_, rfl⟩
      have HP : Hid (put vs l = vs.set k (-1)) := hide (by unfold put; rw [hs, hk1])
      rw [← hk1] at hk hfz HS HB2
      rw [hs] at HS HB2
      have e1 : -l = (k : Int) := by omega
      have k1 : (0 : Int) ≤ (k : Int) := by omega
      have k2 : (k : Int) < ((n + 1 : Nat) : Int) := by omega
      clear hk1 hs
      go_wp2
      exact bodyPost_end (v := .tuple #[]) (by simp [results, Try.results28, go_sem]) rfl ⟨rfl, .inr ⟨e, by rw [unhide HP]; exact unhide HS⟩, unhide HB2⟩
    · have hs : sgn l = 1 := by unfold sgn; rw [if_neg hneg]
      obtain ⟨k, hk1⟩ : ∃ k : Nat, k = l.natAbs := ⟨_, rfl⟩
      have HP : Hid (put vs l = vs.set k 1) := hide (by unfold put; rw [hs, hk1])
      rw [← hk1] at hk hfz HS HB2
      rw [hs] at HS HB2
      have e1 : l = (k : Int) := by omega
      have k1 : (0 : Int) ≤ (k : Int) := by omega
      have k2 : (k : Int) < ((n + 1 : Nat) : Int) := by omega
      clear hk1 hs
      subst e1
      go_wp2
      exact bodyPost_end (v := .tuple #[]) (by simp [results, Try.results28, go_sem]) rfl ⟨rfl, .inr ⟨e, by rw [unhide HP]; exact unhide HS⟩, unhide HB2⟩
end Go.Proofs.Ytonfbnbkhpabbaa
namespace Go.Proofs.Ytonfbnbkhpabbaa
open Go Go.RowKit Gs
set_option linter.unusedVariables false
set_option linter.unusedSimpArgs false
set_option maxRecDepth 100000
open Classical in
/-- How many variables are open, by the memory. -/
def isZ : Value → Bool
  | .int _ z => z == 0
  | _ => false
def opW (vb : Nat) (W : World) : Nat := match W.heap[vb]? with
  | some (.cells cs _ _) => (cs.toList.filter isZ).length
  | _ => 0
theorem isZ_count : ∀ vs : List Int, ((vs.map fun z => Value.int .i64 z).filter isZ).length = vs.count 0
  | [] => rfl
  | z :: vs => by
    have ih := isZ_count vs
    by_cases h : z = 0
    · subst h
      rw [List.map_cons, List.filter_cons_of_pos (by rfl), List.length_cons, ih, List.count_cons_self]
    · rw [List.map_cons, List.filter_cons_of_neg (by simpa [isZ] using h), ih, List.count_cons_of_ne h]
theorem opW_eq {vb : Nat} {W : World} {vs : List Int} (h : W.heap[vb]? = some (.cells (iC vs) 3)) : opW vb W = opn vs := by
  unfold opW opn
  rw [h]
  exact isZ_count vs
/-- A clause that says no more. -/
def Quiet (vs : List Int) (c : List Int) : Prop := (∃ l ∈ c, val vs l = 1) ∨ ∃ l ∈ c, ∃ m ∈ c, l ≠ m ∧ val vs l = 0 ∧ val vs m = 0
/-- What is known of a clause's first literals: so many are open, the last of them. -/
def Scan (vs : List Int) (c : List Int) (op : Nat) (last : Int) : Prop :=
  (op = 0 ∧ last = 0 ∧ ∀ m ∈ c, val vs m = -1) ∨ (op = 1 ∧ last ∈ c ∧ val vs last = 0 ∧ ∀ m ∈ c, m = last ∨ val vs m = -1) ∨ (op = 2 ∧ Quiet vs c)
theorem Scan.nil (vs : List Int) : Scan vs [] 0 0 := .inl ⟨rfl, rfl, fun m hm => by cases hm⟩
theorem Quiet.more {vs c : List Int} (h : Quiet vs c) (x : Int) : Quiet vs (c ++ [x]) := by
  rcases h with ⟨l, h1, h2⟩ | ⟨l, h1, m, h2, h3⟩
  · exact .inl ⟨l, List.mem_append_left _ h1, h2⟩
  · exact .inr ⟨l, List.mem_append_left _ h1, m, List.mem_append_left _ h2, h3⟩
theorem Quiet.of_take {vs c : List Int} {k : Nat} (h : Quiet vs (c.take k)) : Quiet vs c := by
  rcases h with ⟨l, h1, h2⟩ | ⟨l, h1, m, h2, h3⟩
  · exact .inl ⟨l, List.mem_of_mem_take h1, h2⟩
  · exact .inr ⟨l, List.mem_of_mem_take h1, m, List.mem_of_mem_take h2, h3⟩
theorem Scan.true {vs c : List Int} {op : Nat} {last : Int} (x : Int) (hx : val vs x = 1) : Scan vs (c ++ [x]) 2 last := .inr (.inr ⟨rfl, .inl ⟨x, by simp, hx⟩⟩)
theorem Scan.false {vs c : List Int} {op : Nat} {last : Int} (h : Scan vs c op last) (x : Int) (hx : val vs x = -1) : Scan vs (c ++ [x]) op last := by
  rcases h with ⟨h1, h2, h3⟩ | ⟨h1, h2, h3, h4⟩ | ⟨h1, h2⟩
  · refine .inl ⟨h1, h2, fun m hm => ?_⟩
    rcases List.mem_append.1 hm with k | k
    · exact h3 m k
    · simp at k; subst k; exact hx
  · refine .inr (.inl ⟨h1, List.mem_append_left _ h2, h3, fun m hm => ?_⟩)
    rcases List.mem_append.1 hm with k | k
    · exact h4 m k
    · simp at k; subst k; exact .inr hx
  · exact .inr (.inr ⟨h1, h2.more x⟩)
theorem Scan.same {vs c : List Int} {op : Nat} {last : Int} (h : Scan vs c op last) (hop : op < 2) (hx : val vs last = 0) (hl0 : last ≠ 0) : Scan vs (c ++ [last]) op last := by
  rcases h with ⟨h1, h2, h3⟩ | ⟨h1, h2, h3, h4⟩ | ⟨h1, h2⟩
  · exact absurd h2 hl0
  · refine .inr (.inl ⟨h1, List.mem_append_left _ h2, h3, fun m hm => ?_⟩)
    rcases List.mem_append.1 hm with k | k
    · exact h4 m k
    · simp at k; exact .inl k
  · omega
theorem Scan.open {vs c : List Int} {op : Nat} {last : Int} (h : Scan vs c op last) (hop : op < 2) {x : Int} (hx : val vs x = 0) (hne : x ≠ last) : Scan vs (c ++ [x]) (op + 1) x := by
  rcases h with ⟨h1, h2, h3⟩ | ⟨h1, h2, h3, h4⟩ | ⟨h1, h2⟩
  · refine .inr (.inl ⟨by omega, by simp, hx, fun m hm => ?_⟩)
    rcases List.mem_append.1 hm with k | k
    · exact .inr (h3 m k)
    · simp at k; exact .inl k
  · exact .inr (.inr ⟨by omega, .inr ⟨x, by simp, last, List.mem_append_left _ h2, hne, hx, h3⟩⟩)
  · omega
/-- What is kept while one follows. -/
structure FI (B n b vb : Nat) (w : World) (Cl : List (List Int)) (A vs : List Int) (b0 : Bool) (W : World) (vs1 : List Int) (bd : Bool) : Prop where
  sm : SM B n b vb W vs1 bd
  v : Vals n vs1
  s : Snd Cl A n vs1
  x : Ext vs vs1
  con : bd = true → Con Cl A
  bl : Below B w W
  kp : b0 = true → bd = true
/-- What came of it. -/
def FQ (B n b vb : Nat) (w : World) (Cl : List (List Int)) (A vs : List Int) (b0 : Bool) (W : World) : Prop := ∃ vs' bad', FI B n b vb w Cl A vs b0 W vs' bad' ∧ (bad' = false → Shut Cl vs')
def MI (Cl : List (List Int)) (vs1 vs2 : List Int) (bd again : Bool) (k : Nat) : Prop := (again = true → opn vs2 < opn vs1) ∧ (again = false → vs2 = vs1 ∧ (bd = false → ∀ c ∈ Cl.take k, Quiet vs1 c))
def agN : Value → Nat
  | .bool true => 1
  | _ => 0
theorem MI.step {Cl : List (List Int)} {vs1 vs2 : List Int} {again : Bool} {k : Nat} {y : List Int} (h : MI Cl vs1 vs2 false again k) (hx : Cl[k]? = some y) (hq : Quiet vs2 y) : MI Cl vs1 vs2 false again (k + 1) := by
  refine ⟨h.1, fun ha => ?_⟩
  obtain ⟨e, h2⟩ := h.2 ha
  refine ⟨e, fun _ c hc => ?_⟩
  rw [List.take_add_one, hx, Option.toList_some] at hc
  rcases List.mem_append.1 hc with k | k
  · exact h2 rfl c k
  · simp at k; subst k; rw [← e]; exact hq
set_option maxHeartbeats 16000000 in
theorem sFollow {B n b vb : Nat} {w W : World} {vs : List Int} {bad : Bool} (Cl : List (List Int)) (A : List Int) (v : Value) (hn : n ≤ 2048) (hr : RS 1 RIntS w 0 Cl v) (hbw : B = w.heap.size) (hC : ∀ c ∈ Cl, Lits n c) (h : FI B n b vb w Cl A vs bad W vs bad) :
    Calls Try.prog 29 #[.pointer (some ⟨b, 0, none⟩), v] W fun e w' => e = .returned (.tuple #[]) ∧ FQ B n b vb w Cl A vs bad w' := by
  have hlen := hr.len
  unfold maxLen at hlen
  obtain ⟨a, c, rfl⟩ := hr.slice
  have HR := hide hr
  have H0 := hide h
  have HC := hide hC
  clear h hr hC
  go_enter Try.func29, Try.ntmps29
  go_wp2
  go_loopw [4] (fun ag wr => ∃ (vs1 : List Int) (bd again : Bool), ag = .bool again ∧ FI B n b vb w Cl A vs bad wr vs1 bd ∧ (again = false → bd = false → Shut Cl vs1)) (fun ag wr => opW vb wr + agN ag)
  case atStart => exact ⟨vs, bad, true, rfl, unhide H0, (fun h => by cases h)⟩
  case round =>
    obtain ⟨vs1, bd, again, rfl, hfi, hsh⟩ := hrel
    clear H0
    have q1 := hfi.sm.c1
    cases again with
    | false =>
      have HF := hide (show FQ B n b vb w Cl A vs bad wr from ⟨vs1, bd, hfi, hsh rfl⟩)
      clear hfi hsh
      go_wp2
      exact bodyPost_end (v := .tuple #[]) (by simp [results, Try.results29, go_sem]) rfl ⟨rfl, unhide HF⟩
    | true =>
      cases bd with
      | true =>
        have HF := hide (show FQ B n b vb w Cl A vs bad wr from ⟨vs1, true, hfi, (fun h => by cases h)⟩)
        clear hfi hsh
        go_wp2
        exact bodyPost_end (v := .tuple #[]) (by simp [results, Try.results29, go_sem]) rfl ⟨rfl, unhide HF⟩
      | false =>
        have HMU := hide (opW_eq hfi.sm.vals)
        have HFI := hide hfi
        clear hfi hsh
        go_wp2
        go_loopw [4, 5] (fun ag i wr => ∃ (k : Nat) (vs2 : List Int) (bd again : Bool), k ≤ Cl.length ∧ ag = .bool again ∧ i = .int .i64 (k : Int) ∧ FI B n b vb w Cl A vs bad wr vs2 bd ∧ MI Cl vs1 vs2 bd again k) (fun ag i wr => Cl.length - (intOf i).toNat)
        case atStart => exact ⟨0, vs1, false, false, Nat.zero_le _, rfl, rfl, unhide HFI, (fun h => by cases h), fun _ => ⟨rfl, fun _ c hc => by simp at hc⟩⟩
        case round =>
          obtain ⟨k, vs2, bd, again, hk, rfl, rfl, hfi, hmi⟩ := hrel
          clear HFI q1
          have q1 := hfi.sm.c1
          have hend : (bd = false → k = Cl.length) → (∃ (vsz : List Int) (bdz againz : Bool), Value.bool again = .bool againz ∧ FI B n b vb w Cl A vs bad wr vsz bdz ∧ (againz = false → bdz = false → Shut Cl vsz)) ∧ opW vb wr + agN (.bool again) < opn vs1 + 1 := by
            intro hbl
            refine ⟨⟨vs2, bd, again, rfl, hfi, fun h1 h2 => ?_⟩, ?_⟩
            · obtain ⟨e1, e2⟩ := hmi.2 h1
              have := e2 h2
              rw [hbl h2, List.take_of_length_le (Nat.le_refl _)] at this
              rw [e1]
              exact this
            · rw [opW_eq hfi.sm.vals]
              cases again with
              | false => rw [(hmi.2 rfl).1]; simp [agN]
              | true => have := hmi.1 rfl; simp [agN]; omega
          have HEND := hide hend
          clear hend
          cases bd with
          | true =>
            have HE := hide (unhide HEND (fun h => by cases h))
            clear hfi HEND hmi
            by_cases hlt : k < Cl.length
            · have i1 : (k : Int) < (Cl.length : Int) := by omega
              go_wp2
              rw [unhide HMU]
              exact unhide HE
            · have i1 : ¬ (k : Int) < (Cl.length : Int) := by omega
              go_wp2
              rw [unhide HMU]
              exact unhide HE
          | false =>
            by_cases hlt : k < Cl.length
            · have hx : Cl[k]? = some Cl[k] := List.getElem?_eq_getElem hlt
              generalize Cl[k] = y at hx
              have hyC := unhide HC y (List.mem_of_getElem? hx)
              have hyM := List.mem_of_getElem? hx
              obtain ⟨sb, so, ya, yc, rfl, k0', HYC, hyl⟩ : ∃ sb so ya yc, a = some ⟨sb, so, none⟩ ∧ w.cell? ⟨sb, so + k, none⟩ = some (.slice ya y.length yc) ∧ Hid (∀ (j : Nat) z, y[j]? = some z → ∃ yb yo, ya = some ⟨yb, yo, none⟩ ∧ w.cell? ⟨yb, yo + j, none⟩ = some (.int .i64 z)) ∧ y.length ≤ 9223372036854775807 := by
                rcases (unhide HR).open with ⟨e, _⟩ | ⟨sb, so, c', hv, _, _, _, he⟩
                · rw [e] at hx; simp at hx
                · injection hv with e1 e2 e3
                  obtain ⟨u, hu, hat, vy, hue, hry⟩ := he k y hx
                  subst hue
                  have k0 := hat.get (j := 0) rfl
                  simp only [Nat.add_zero, Nat.mul_one] at k0
                  obtain ⟨ya, yc, hvy⟩ := hry.slice
                  have hl := hry.len
                  refine ⟨sb, so, ya, yc, e1, by rw [k0, hvy], hide ?_, by unfold maxLen at hl; omega⟩
                  intro j z hz
                  rcases hry.open with ⟨rfl, _⟩ | ⟨yb, yo, c2, hv2, _, _, _, he2⟩
                  · simp at hz
                  · rw [hvy] at hv2
                    injection hv2 with f1 f2 f3
                    obtain ⟨u, hu, hat, hux⟩ := he2 j z hz
                    subst hux
                    exact ⟨yb, yo, f1, by simpa using hat.get (j := 0) rfl⟩
              have k0 := cell_later (by rw [← hbw]; exact hfi.bl) k0'
              have i1 : (k : Int) < (Cl.length : Int) := by omega
              have i2 : (0 : Int) ≤ (k : Int) := by omega
              have HFI := hide hfi
              have HMI := hide hmi
              have HX := hide hx
              have HYL := hide hyC
              have HYM := hide hyM
              clear hfi hmi hx HEND hyC hyM k0'
              go_wp2
              go_loopw [6, 7, 8] (fun op last kk wr2 => ∃ (j o : Nat) (la : Int), j ≤ y.length ∧ kk = .int .i64 (j : Int) ∧ op = .int .i64 (o : Int) ∧ last = .int .i64 la ∧ Scan vs2 (y.take j) o la ∧ wr2 = wr) (fun op last kk wr2 => y.length - (intOf kk).toNat)
              case atStart => exact ⟨0, 0, 0, Nat.zero_le _, rfl, rfl, rfl, Scan.nil _, rfl⟩
              case round =>
                obtain ⟨j, o, la, hj, rfl, rfl, rfl, hsc, rfl⟩ := hrel
                by_cases ho2 : o < 2
                · by_cases hjl : j < y.length
                  · have hz : y[j]? = some y[j] := List.getElem?_eq_getElem hjl
                    generalize y[j] = z at hz
                    have hzl := unhide HYL z (List.mem_of_getElem? hz)
                    have htk : y.take (j + 1) = y.take j ++ [z] := by rw [List.take_add_one, hz]; rfl
                    obtain ⟨yb, yo, rfl, j0'⟩ := unhide HYC j z hz
                    have j0 := cell_later (by rw [← hbw]; exact (unhide HFI).bl) j0'
                    have HO := hide (sOf (unhide HFI).sm (unhide HFI).v hzl hn)
                    have h3 := (unhide HFI).v.val z
                    have j1 : (j : Int) < (y.length : Int) := by omega
                    have j2 : (0 : Int) ≤ (j : Int) := by omega
                    have hz0 : z ≠ 0 := hzl.1
                    have o1 : (o : Int) < 2 := by omega
                    have o0 : (0 : Int) ≤ (o : Int) := by omega
                    have HT1 := hide (fun (e : val vs2 z = 1) => (show Scan vs2 (y.take (j + 1)) 2 la by rw [htk]; exact Scan.true (op := o) z e))
                    have HTM := hide (fun (e : val vs2 z = -1) => (show Scan vs2 (y.take (j + 1)) o la by rw [htk]; exact hsc.false z e))
                    have HTS := hide (fun (e : val vs2 z = 0) (e2 : z = la) => (show Scan vs2 (y.take (j + 1)) o la by rw [htk]; subst e2; exact hsc.same ho2 e hz0))
                    have HTO := hide (fun (e : val vs2 z = 0) (e2 : z ≠ la) => (show Scan vs2 (y.take (j + 1)) (o + 1) z by rw [htk]; exact hsc.open ho2 e e2))
                    clear hsc htk hz j0' HYC hzl
                    obtain ⟨rv, hrv⟩ : ∃ r, r = val vs2 z := ⟨_, rfl⟩
                    rw [← hrv] at HO HT1 HTM HTS HTO h3
                    clear hrv
                    go_wp2_with fail
                    refine (unhide HO).mono ?_
                    rintro e W1 ⟨rfl, hw⟩
                    have hw' := hw.symm
                    subst hw'
                    rcases h3 with rfl | rfl | rfl
                    · have HSC := hide (unhide HTM rfl)
                      clear HT1 HTM HTS HTO HO
                      go_wp2
                      exact ⟨⟨j + 1, o, la, by omega, by go_num, rfl, rfl, unhide HSC, trivial⟩, by simp [intOf]; omega⟩
                    · by_cases e : z = la
                      · have HSC := hide (unhide HTS rfl e)
                        subst e
                        clear HT1 HTM HTS HTO HO
                        go_wp2
                        exact ⟨⟨j + 1, o, z, by omega, by go_num, rfl, rfl, unhide HSC, trivial⟩, by simp [intOf]; omega⟩
                      · have HSC := hide (unhide HTO rfl e)
                        have e' : (z != la) = true := by simpa using e
                        clear HT1 HTM HTS HTO HO
                        go_wp2
                        exact ⟨⟨j + 1, o + 1, z, by omega, by go_num, by go_num, rfl, unhide HSC, trivial⟩, by simp [intOf]; omega⟩
                    · have HSC := hide (unhide HT1 rfl)
                      clear HT1 HTM HTS HTO HO
                      go_wp2
                      exact ⟨⟨j + 1, 2, la, by omega, by go_num, rfl, rfl, unhide HSC, trivial⟩, by simp [intOf]; omega⟩
                  · have hje : j = y.length := by omega
                    rw [hje, List.take_of_length_le (Nat.le_refl _)] at hsc
                    have j1 : ¬ (j : Int) < (y.length : Int) := by omega
                    have hyl3 := unhide HYL
                    rcases hsc with ⟨rfl, rfl, h3⟩ | ⟨rfl, h2, h3, h4⟩ | ⟨e, _⟩
                    · have HCON := hide ((unhide HFI).s.fail (unhide HYM) (unhide HYL) h3)
                      have q1 := (unhide HFI).sm.c1
                      have q2 := (unhide HFI).sm.f1
                      have HFI2 := hide (show FI B n b vb w Cl A vs bad (wr.setCell ⟨b, 1, none⟩ (.bool true)) vs2 true from ⟨(unhide HFI).sm.fail, (unhide HFI).v, (unhide HFI).s, (unhide HFI).x, fun _ => unhide HCON, (unhide HFI).bl.setCell (p := ⟨b, 1, none⟩) (unhide HFI).sm.hb _, fun _ => rfl⟩)
                      have HMI2 : Hid (MI Cl vs1 vs2 true again (k + 1)) := hide ⟨(unhide HMI).1, fun ha => ⟨((unhide HMI).2 ha).1, (fun h => by cases h)⟩⟩
                      clear h3 HYC hyl3
                      go_wp2
                      exact ⟨⟨k + 1, vs2, true, again, by omega, rfl, by go_num, unhide HFI2, unhide HMI2⟩, by simp [intOf]; omega⟩
                    · have hll := unhide HYL la h2
                      have HA := hide (sAssume (unhide HFI).sm (unhide HFI).bl (unhide HFI).v hll hn)
                      have HDER := hide ((unhide HFI).s.unit (unhide HYM) (unhide HYL) h2 h4)
                      have HOPN := hide (put_opn (unhide HFI).v hll h3)
                      have HV0 := hide h3
                      have HLL := hide hll
                      clear h2 h3 h4 hll hyl3 HYC
                      go_wp2_with fail
                      refine (unhide HA).mono ?_
                      rintro e W1 ⟨rfl, hor, hbl⟩
                      have hsm : SM B n b vb W1 (put vs2 la) false := by
                        rcases hor with ⟨h1, _⟩ | ⟨_, h1⟩
                        · rw [unhide HV0] at h1; omega
                        · exact h1
                      have HFI2 := hide (show FI B n b vb w Cl A vs bad W1 (put vs2 la) false from ⟨hsm, put_vals (unhide HFI).v la, (unhide HFI).s.put (unhide HFI).v (unhide HLL) (unhide HDER), (unhide HFI).x.trans (put_ext (unhide HFI).v (unhide HLL) (unhide HV0)), (fun h => by cases h), hbl, (unhide HFI).kp⟩)
                      have HMI2 : Hid (MI Cl vs1 (put vs2 la) false true (k + 1)) := hide ⟨fun _ => (by
                        have h1 := unhide HOPN
                        cases again with
                        | true => have := (unhide HMI).1 rfl; omega
                        | false => rw [((unhide HMI).2 rfl).1] at h1 ⊢; exact h1), (fun h => by cases h)⟩
                      clear hor hsm hbl
                      go_wp2
                      exact ⟨⟨k + 1, put vs2 la, false, true, by omega, rfl, by go_num, unhide HFI2, unhide HMI2⟩, by simp [intOf]; omega⟩
                    · omega
                · have hq : o = 2 ∧ Quiet vs2 y := by
                    rcases hsc with ⟨e, _⟩ | ⟨e, _⟩ | ⟨e, h⟩
                    · omega
                    · omega
                    · exact ⟨e, h.of_take⟩
                  obtain ⟨rfl, hq⟩ := hq
                  have HMI2 := hide ((unhide HMI).step (unhide HX) hq)
                  clear hsc HYC hq ho2
                  by_cases hjl : j < y.length
                  · have j1 : (j : Int) < (y.length : Int) := by omega
                    go_wp2
                    exact ⟨⟨k + 1, vs2, false, again, by omega, rfl, by go_num, unhide HFI, unhide HMI2⟩, by simp [intOf]; omega⟩
                  · have j1 : ¬ (j : Int) < (y.length : Int) := by omega
                    go_wp2
                    exact ⟨⟨k + 1, vs2, false, again, by omega, rfl, by go_num, unhide HFI, unhide HMI2⟩, by simp [intOf]; omega⟩
            · have HE := hide (unhide HEND (fun _ => by omega))
              clear hfi HEND hmi
              have i1 : ¬ (k : Int) < (Cl.length : Int) := by omega
              go_wp2
              rw [unhide HMU]
              exact unhide HE
end Go.Proofs.Ytonfbnbkhpabbaa
