/- The program's newFollowing: the region that makes its memory. -/
import Derived.Test.YtonfbnbkhpabbaaP11
namespace Go.Proofs.Ytonfbnbkhpabbaa
open Go Go.RowKit Gs
set_option linter.unusedVariables false
set_option linter.unusedSimpArgs false
set_option maxRecDepth 100000
def rowsN (m : Nat) : Array Value := (List.replicate m (Value.slice none 0 0)).toArray
theorem info22 : (Try.prog.info? 22).map (fun i => (i.zero, i.size, i.bytes)) = some (some (.slice none 0 0), 1, 24) := by kernel_rfl
theorem make_rows (n : Nat) (hn : n ≤ 4194304) : ∀ W : World, (Instr.makeSlice 51 (.int .i64 (n : Int)) (.int .i64 (n : Int))).run Try.prog W = .ok (.slice (some ⟨W.heap.size, 0, none⟩) n n) (W.alloc (.cells (rowsN n) 22)) := by
  obtain ⟨i0, hi, hz0, hz1, hz2⟩ := info_parts info22
  intro W
  have hr := run_make (P := Try.prog) W 51 22 i0 _ Try.underlying51 hi hz0 .i64 .i64 n n (by omega) (Int.le_refl _) (by rw [hz2]; omega) (by omega)
  rw [hr, hz1]
  have e : madeCells (Value.slice none 0 0).cells (n * 1) = rowsN n := by
    apply Array.ext'
    unfold rowsN
    refine List.ext_getElem? fun i => ?_
    rw [Array.getElem?_toList, List.getElem?_toArray, List.getElem?_replicate]
    by_cases h : i < n
    · simp [madeCells, h, Nat.mod_one, Value.cells]
    · simp [madeCells, h]
  simp only [Nat.mul_one, Int.toNat_natCast] at e ⊢
  rw [e]
def nfF (w0 : World) (n m1 m2 m3 : Nat) : Nat → World → Value → Prop
  | 0, w, v => v = .int .i64 ((n : Nat) : Int)
  | 1, w, v => v = .int .i64 ((m1 : Nat) : Int)
  | 2, w, v => ∃ M, v = .slice (some ⟨M, 0, none⟩) m1 m1 ∧ w0.heap.size ≤ M ∧ w.heap[M]? = some (.cells (iC (zeros m1)) 3)
  | 3, w, v => v = .int .i64 ((n : Nat) : Int)
  | 4, w, v => v = .int .i64 ((m2 : Nat) : Int)
  | 5, w, v => v = .int .i64 ((m3 : Nat) : Int)
  | 6, w, v => ∃ M, v = .slice (some ⟨M, 0, none⟩) m3 m3 ∧ w0.heap.size ≤ M ∧ w.heap[M]? = some (.cells (rowsN m3) 22)
  | 7, w, v => v = .int .i64 ((n : Nat) : Int)
  | 8, w, v => v = .int .i64 ((m2 : Nat) : Int)
  | 9, w, v => v = .int .i64 ((m3 : Nat) : Int)
  | 10, w, v => ∃ M, v = .slice (some ⟨M, 0, none⟩) m3 m3 ∧ w0.heap.size ≤ M ∧ w.heap[M]? = some (.cells (iC (zeros m3)) 3)
  | 11, w, v => ∃ vb ob mb, v = .agg #[.slice (some ⟨vb, 0, none⟩) m1 m1, .slice none 0 0, .int .i64 0, .slice (some ⟨ob, 0, none⟩) m3 m3, .int .i64 0, .slice (some ⟨mb, 0, none⟩) m3 m3, .bool false] ∧ w0.heap.size ≤ vb ∧ w0.heap.size ≤ ob ∧ w0.heap.size ≤ mb ∧ w.heap[vb]? = some (.cells (iC (zeros m1)) 3) ∧ w.heap[ob]? = some (.cells (rowsN m3) 22) ∧ w.heap[mb]? = some (.cells (iC (zeros m3)) 3)
  | 12, w, v => ∃ b vb ob mb, v = .pointer (some ⟨b, 0, none⟩) ∧ w0.heap.size ≤ b ∧ w.heap[b]? = some (.cells #[.slice (some ⟨vb, 0, none⟩) m1 m1, .slice none 0 0, .int .i64 0, .slice (some ⟨ob, 0, none⟩) m3 m3, .int .i64 0, .slice (some ⟨mb, 0, none⟩) m3 m3, .bool false] 53) ∧ w0.heap.size ≤ vb ∧ w0.heap.size ≤ ob ∧ w0.heap.size ≤ mb ∧ w.heap[vb]? = some (.cells (iC (zeros m1)) 3) ∧ w.heap[ob]? = some (.cells (rowsN m3) 22) ∧ w.heap[mb]? = some (.cells (iC (zeros m3)) 3)
  | 13, w, v => ∃ b vb ob mb, v = .pointer (some ⟨b, 0, none⟩) ∧ w0.heap.size ≤ b ∧ w.heap[b]? = some (.cells #[.slice (some ⟨vb, 0, none⟩) m1 m1, .slice none 0 0, .int .i64 0, .slice (some ⟨ob, 0, none⟩) m3 m3, .int .i64 0, .slice (some ⟨mb, 0, none⟩) m3 m3, .bool false] 53) ∧ w0.heap.size ≤ vb ∧ w0.heap.size ≤ ob ∧ w0.heap.size ≤ mb ∧ w.heap[vb]? = some (.cells (iC (zeros m1)) 3) ∧ w.heap[ob]? = some (.cells (rowsN m3) 22) ∧ w.heap[mb]? = some (.cells (iC (zeros m3)) 3)
  | _, _, _ => True
def nfOps : Array Oper := #[{ dst := some 8, op := Op.move (Operand.tmp 0), type := 3, pos := "l13_sat.go:59", after := #[], guard := none }, { dst := some 9, op := Op.binOp BinOp.add 3 (Operand.tmp 8) (Operand.const (Value.int IntKind.i64 1)) 3, type := 3, pos := "l13_sat.go:59", after := #[{ on := 0, ground := Ground.data }], guard := none }, { dst := some 10, op := Op.makeSlice 24 (Operand.tmp 9) (Operand.tmp 9), type := 24, pos := "l13_sat.go:59", after := #[{ on := 1, ground := Ground.data }, { on := 1, ground := Ground.data }], guard := none }, { dst := some 11, op := Op.move (Operand.tmp 0), type := 3, pos := "l13_sat.go:59", after := #[], guard := none }, { dst := some 12, op := Op.binOp BinOp.mul 3 (Operand.const (Value.int IntKind.i64 2)) (Operand.tmp 11) 3, type := 3, pos := "l13_sat.go:59", after := #[{ on := 3, ground := Ground.data }], guard := none }, { dst := some 13, op := Op.binOp BinOp.add 3 (Operand.tmp 12) (Operand.const (Value.int IntKind.i64 2)) 3, type := 3, pos := "l13_sat.go:59", after := #[{ on := 4, ground := Ground.data }], guard := none }, { dst := some 14, op := Op.makeSlice 51 (Operand.tmp 13) (Operand.tmp 13), type := 51, pos := "l13_sat.go:59", after := #[{ on := 5, ground := Ground.data }, { on := 5, ground := Ground.data }], guard := none }, { dst := some 15, op := Op.move (Operand.tmp 0), type := 3, pos := "l13_sat.go:59", after := #[], guard := none }, { dst := some 16, op := Op.binOp BinOp.mul 3 (Operand.const (Value.int IntKind.i64 2)) (Operand.tmp 15) 3, type := 3, pos := "l13_sat.go:59", after := #[{ on := 7, ground := Ground.data }], guard := none }, { dst := some 17, op := Op.binOp BinOp.add 3 (Operand.tmp 16) (Operand.const (Value.int IntKind.i64 2)) 3, type := 3, pos := "l13_sat.go:59", after := #[{ on := 8, ground := Ground.data }], guard := none }, { dst := some 18, op := Op.makeSlice 24 (Operand.tmp 17) (Operand.tmp 17), type := 24, pos := "l13_sat.go:59", after := #[{ on := 9, ground := Ground.data }, { on := 9, ground := Ground.data }], guard := none }, { dst := some 19, op := Op.build 53 #[(0, Operand.tmp 10), (3, Operand.tmp 14), (5, Operand.tmp 18)], type := 53, pos := "l13_sat.go:59", after := #[{ on := 2, ground := Ground.data }, { on := 6, ground := Ground.data }, { on := 10, ground := Ground.data }], guard := none }, { dst := some 20, op := Op.box 53 (Operand.tmp 19), type := 42, pos := "l13_sat.go:59", after := #[{ on := 11, ground := Ground.data }], guard := none }, { dst := some 5, op := Op.assign (Operand.tmp 20), type := 42, pos := "l13_sat.go:59", after := #[{ on := 12, ground := Ground.data }, { on := 0, ground := Ground.phase }, { on := 1, ground := Ground.phase }, { on := 2, ground := Ground.phase }, { on := 3, ground := Ground.phase }, { on := 4, ground := Ground.phase }, { on := 5, ground := Ground.phase }, { on := 6, ground := Ground.phase }, { on := 7, ground := Ground.phase }, { on := 8, ground := Ground.phase }, { on := 9, ground := Ground.phase }, { on := 10, ground := Ground.phase }, { on := 11, ground := Ground.phase }, { on := 12, ground := Ground.phase }], guard := none }]
theorem hp_later {w w' : World} (h : Below w.heap.size w w') {k : Nat} {x : Obj} (hx : w.heap[k]? = some x) : w'.heap[k]? = some x := (h.block k (heap_lt hx)).trans hx
theorem nfF.lasts (w0 : World) (n m1 m2 m3 : Nat) : Lasts (nfF w0 n m1 m2 m3) := fun k w w' v hb h => by
  match k, h with
  | 0, h => exact h
  | 1, h => exact h
  | 2, ⟨M, h1, h2, h3⟩ => exact ⟨M, h1, h2, hp_later hb h3⟩
  | 3, h => exact h
  | 4, h => exact h
  | 5, h => exact h
  | 6, ⟨M, h1, h2, h3⟩ => exact ⟨M, h1, h2, hp_later hb h3⟩
  | 7, h => exact h
  | 8, h => exact h
  | 9, h => exact h
  | 10, ⟨M, h1, h2, h3⟩ => exact ⟨M, h1, h2, hp_later hb h3⟩
  | 11, ⟨vb, ob, mb, h1, h2, h3, h4, h5, h6, h7⟩ => exact ⟨vb, ob, mb, h1, h2, h3, h4, hp_later hb h5, hp_later hb h6, hp_later hb h7⟩
  | 12, ⟨b, vb, ob, mb, h1, h0, h9, h2, h3, h4, h5, h6, h7⟩ => exact ⟨b, vb, ob, mb, h1, h0, hp_later hb h9, h2, h3, h4, hp_later hb h5, hp_later hb h6, hp_later hb h7⟩
  | 13, ⟨b, vb, ob, mb, h1, h0, h9, h2, h3, h4, h5, h6, h7⟩ => exact ⟨b, vb, ob, mb, h1, h0, hp_later hb h9, h2, h3, h4, hp_later hb h5, hp_later hb h6, hp_later hb h7⟩
  | k + 14, h => trivial
set_option maxHeartbeats 16000000 in
theorem nfRow {n m1 m2 m3 : Nat} {wr : World} {Q : Exit → Act → World → Prop} (hn : n ≤ 2048) (h1 : m1 = n + 1) (h2 : m2 = 2 * n) (h3 : m3 = 2 * n + 2)
    (a0 : Act) (ha0 : a0.tmps.size = 32) (e0 : a0.eval (.tmp 0) = .int .i64 (n : Int))
    (hQ : ∀ a V, a.tmps.size = a0.tmps.size → a.defers = a0.defers → (∀ t, t ∉ [8, 9, 10, 11, 12, 13, 14, 15, 16, 17, 18, 19, 20, 5] → a.eval (.tmp t) = a0.eval (.tmp t)) → nfF wr n m1 m2 m3 13 V (a.eval (.tmp 5)) → Below wr.heap.size wr V → Q .normal a V) :
    (Code.region 1 nfOps true).wp Try.prog Q a0 wr := by
  have H1 := hide h1
  have H2 := hide h2
  have H3 := hide h3
  have b1 : m1 ≤ 4100 := by omega
  have b2 : m2 ≤ 4100 := by omega
  have b3 : m3 ≤ 4100 := by omega
  clear h1 h2 h3
  refine wp_plan (GW (nfF wr n m1 m2 m3)) (JB wr) (by kernel_rfl) 32 ha0 (by kernel_rfl) ?hj ?hs ?hf
  case hj => exact bdr (brf wr)
  case hs =>
    refine ⟨?_, ?_, ?_, ?_, ?_, ?_, ?_, ?_, ?_, ?_, ?_, ?_, ?_, ?_, trivial⟩
    · exact sl_val rfl (fun l a V hp ha => ⟨.int .i64 ((n : Nat) : Int), by
        have x0 := (ev_form a 0).trans (old hp 0 (v := .int .i64 (n : Int)) (by kernel_rfl) e0)
        go_simp, rfl⟩)
    · exact sl_val rfl (fun l a V hp ha => ⟨.int .i64 ((m1 : Nat) : Int), by
        have x8 := (ev_form a 8).trans (show a.eval (.tmp 8) = .int .i64 ((n : Nat) : Int) from (knR hp ha 8 0 (by kernel_rfl) (by kernel_rfl)))
        have e : (m1 : Int) = (n : Int) + 1 := by have := unhide H1; omega
        rw [e]
        go_simp; exact IntWalk.i64_in _ ⟨by omega, by omega⟩, rfl⟩)
    · exact sl_new (nfF.lasts _ _ _ _ _) rfl (fun l a V hp ha => ⟨.slice (some ⟨V.heap.size, 0, none⟩) m1 m1, .cells (iC (zeros m1)) 3, by
        have x9 := (ev_form a 9).trans (show a.eval (.tmp 9) = .int .i64 ((m1 : Nat) : Int) from (knR hp ha 9 1 (by kernel_rfl) (by kernel_rfl)))
        have hmk := make_ints 24 Try.underlying24 m1 (by omega) V
        go_simp, V.heap.size, rfl, hp.j.size, heap_new V _⟩)
    · exact sl_val rfl (fun l a V hp ha => ⟨.int .i64 ((n : Nat) : Int), by
        have x0 := (ev_form a 0).trans (old hp 0 (v := .int .i64 (n : Int)) (by kernel_rfl) e0)
        go_simp, rfl⟩)
    · exact sl_val rfl (fun l a V hp ha => ⟨.int .i64 ((m2 : Nat) : Int), by
        have x11 := (ev_form a 11).trans (show a.eval (.tmp 11) = .int .i64 ((n : Nat) : Int) from (knR hp ha 11 3 (by kernel_rfl) (by kernel_rfl)))
        have e : (m2 : Int) = 2 * (n : Int) := by have := unhide H2; omega
        rw [e]
        go_simp; exact IntWalk.i64_in _ ⟨by omega, by omega⟩, rfl⟩)
    · exact sl_val rfl (fun l a V hp ha => ⟨.int .i64 ((m3 : Nat) : Int), by
        have x12 := (ev_form a 12).trans (show a.eval (.tmp 12) = .int .i64 ((m2 : Nat) : Int) from (knR hp ha 12 4 (by kernel_rfl) (by kernel_rfl)))
        have e : (m3 : Int) = (m2 : Int) + 2 := by have := unhide H3; have := unhide H2; omega
        rw [e]
        go_simp; exact IntWalk.i64_in _ ⟨by omega, by omega⟩, rfl⟩)
    · exact sl_new (nfF.lasts _ _ _ _ _) rfl (fun l a V hp ha => ⟨.slice (some ⟨V.heap.size, 0, none⟩) m3 m3, .cells (rowsN m3) 22, by
        have x13 := (ev_form a 13).trans (show a.eval (.tmp 13) = .int .i64 ((m3 : Nat) : Int) from (knR hp ha 13 5 (by kernel_rfl) (by kernel_rfl)))
        have hmk := make_rows m3 (by omega) V
        go_simp, V.heap.size, rfl, hp.j.size, heap_new V _⟩)
    · exact sl_val rfl (fun l a V hp ha => ⟨.int .i64 ((n : Nat) : Int), by
        have x0 := (ev_form a 0).trans (old hp 0 (v := .int .i64 (n : Int)) (by kernel_rfl) e0)
        go_simp, rfl⟩)
    · exact sl_val rfl (fun l a V hp ha => ⟨.int .i64 ((m2 : Nat) : Int), by
        have x15 := (ev_form a 15).trans (show a.eval (.tmp 15) = .int .i64 ((n : Nat) : Int) from (knR hp ha 15 7 (by kernel_rfl) (by kernel_rfl)))
        have e : (m2 : Int) = 2 * (n : Int) := by have := unhide H2; omega
        rw [e]
        go_simp; exact IntWalk.i64_in _ ⟨by omega, by omega⟩, rfl⟩)
    · exact sl_val rfl (fun l a V hp ha => ⟨.int .i64 ((m3 : Nat) : Int), by
        have x16 := (ev_form a 16).trans (show a.eval (.tmp 16) = .int .i64 ((m2 : Nat) : Int) from (knR hp ha 16 8 (by kernel_rfl) (by kernel_rfl)))
        have e : (m3 : Int) = (m2 : Int) + 2 := by have := unhide H3; have := unhide H2; omega
        rw [e]
        go_simp; exact IntWalk.i64_in _ ⟨by omega, by omega⟩, rfl⟩)
    · exact sl_new (nfF.lasts _ _ _ _ _) rfl (fun l a V hp ha => ⟨.slice (some ⟨V.heap.size, 0, none⟩) m3 m3, .cells (iC (zeros m3)) 3, by
        have x17 := (ev_form a 17).trans (show a.eval (.tmp 17) = .int .i64 ((m3 : Nat) : Int) from (knR hp ha 17 9 (by kernel_rfl) (by kernel_rfl)))
        have hmk := make_ints 24 Try.underlying24 m3 (by omega) V
        go_simp, V.heap.size, rfl, hp.j.size, heap_new V _⟩)
    · refine sl_val rfl (fun l a V hp ha => ?_)
      obtain ⟨vb, v1, v2, v3⟩ := knR hp ha 10 2 (by kernel_rfl) (by kernel_rfl)
      obtain ⟨ob, u1, u2, u3⟩ := knR hp ha 14 6 (by kernel_rfl) (by kernel_rfl)
      obtain ⟨mb, t1, t2, t3⟩ := knR hp ha 18 10 (by kernel_rfl) (by kernel_rfl)
      refine ⟨.agg #[.slice (some ⟨vb, 0, none⟩) m1 m1, .slice none 0 0, .int .i64 0, .slice (some ⟨ob, 0, none⟩) m3 m3, .int .i64 0, .slice (some ⟨mb, 0, none⟩) m3 m3, .bool false], ?_, vb, ob, mb, rfl, v2, u2, t2, v3, u3, t3⟩
      have x10 := (ev_form a 10).trans v1
      have x14 := (ev_form a 14).trans u1
      have x18 := (ev_form a 18).trans t1
      go_simp
    · refine sl_new (nfF.lasts _ _ _ _ _) rfl (fun l a V hp ha => ?_)
      obtain ⟨vb, ob, mb, g1, g2, g3, g4, g5, g6, g7⟩ := knR hp ha 19 11 (by kernel_rfl) (by kernel_rfl)
      have x19 := (ev_form a 19).trans g1
      refine ⟨.pointer (some ⟨V.heap.size, 0, none⟩), .cells #[.slice (some ⟨vb, 0, none⟩) m1 m1, .slice none 0 0, .int .i64 0, .slice (some ⟨ob, 0, none⟩) m3 m3, .int .i64 0, .slice (some ⟨mb, 0, none⟩) m3 m3, .bool false] 53, ?_, V.heap.size, vb, ob, mb, rfl, hp.j.size, heap_new V _, g2, g3, g4, heap_al g5, heap_al g6, heap_al g7⟩
      go_simp
    · refine sl_val rfl (fun l a V hp ha => ?_)
      have hk := knR hp ha 20 12 (by kernel_rfl) (by kernel_rfl)
      obtain ⟨b, vb, ob, mb, g1, g⟩ := id hk
      have x20 := (ev_form a 20).trans g1
      exact ⟨.pointer (some ⟨b, 0, none⟩), by go_simp, b, vb, ob, mb, rfl, g⟩
  case hf =>
    intro l a V hp hall
    exact hQ a V hp.nt hp.df (fun t ht => hp.keep t (dstIn (by kernel_rfl) ht)) (hp.good 13 _ 5 rfl rfl (hall 13 (by decide))) hp.j
end Go.Proofs.Ytonfbnbkhpabbaa
namespace Go.Proofs.Ytonfbnbkhpabbaa
open Go Go.RowKit Gs
set_option linter.unusedVariables false
set_option linter.unusedSimpArgs false
set_option maxRecDepth 100000
def FS.new (b vb ob mb n : Nat) : FS := { b := b, vb := vb, ob := ob, mb := mb, vs := zeros (n + 1), ms := zeros (2 * n + 2), t := [], tv := .slice none 0 0, fol := 0, rnd := 0, brk := false, sv := fun _ => .slice none 0 0, ids := [], cl := fun _ => [], ws := fun _ => [], ln := fun _ => 0, cap := fun _ => 0, xc := #[], fx := [] }
theorem svA_nil (n : Nat) : svA n (fun _ => .slice none 0 0) = rowsN (2 * n + 2) := by
  unfold svA rowsN
  rw [List.map_const', List.length_range]
theorem AD.start {n : Nat} {w V : World} {v : Value} (h : nfF w n (n + 1) (2 * n) (2 * n + 2) 13 V v) (hb : Below w.heap.size w V) : ∃ s : FS, v = .pointer (some ⟨s.b, 0, none⟩) ∧ AD w.heap.size n w [] s V := by
  obtain ⟨b, vb, ob, mb, h1, h0, h9, h2, h3, h4, h5, h6, h7⟩ := h
  have hne : vb ≠ mb := fun e => by
    subst e
    rw [h5] at h7
    injection h7 with h7
    injection h7 with h7
    have := congrArg Array.size h7
    simp [iC, zeros] at this
    omega
  refine ⟨FS.new b vb ob mb n, h1, ⟨⟨h0, h2, h3, h4, fun i hi => by cases hi⟩, h9, h5, ?_, h7, ⟨rfl, .inl ⟨rfl, rfl⟩⟩, fun p hp _ => ⟨rfl, .inl ⟨rfl, rfl⟩⟩, (fun i hi => by cases hi), hne, (fun j hj => by cases hj), (fun i hi => by cases hi), (fun p q j _ _ hj => by cases hj), (fun p j _ hj => by cases hj), by simp [FS.new, zeros], by simp [FS.new, zeros], (fun p j he => by cases he), fun q hq => by cases hq⟩, hb, hb.size, ?_, (fun o => by cases o), Nat.le_refl _, fun _ => rfl, ?_, Nat.le_refl _, Nat.le_refl _⟩
  · show V.heap[ob]? = some (.cells (svA n (fun _ => .slice none 0 0)) 22)
    rw [h6, svA_nil]
  · refine ⟨⟨(fun l hl => by cases hl), by simp [FS.new]⟩, VR.zero n, ⟨(fun i hi => by cases hi), (fun i hi => by cases hi), (fun l i hi => by cases hi), fun l => List.nodup_nil⟩, fun _ => ⟨(fun i hi => by cases hi), (fun c hc => by cases hc)⟩, (fun _ i hi => by cases hi), (fun _ i hi => by cases hi), (fun _ l hl => by cases hl), (fun l hl => hl), (fun l hl => hl), (fun b hb => by cases hb), List.nodup_nil, by simp [FS.new]⟩
  · intro x hx
    have : x = 0 := by
      have h := hx
      simp [FS.new, zeros] at h
      exact h
    rw [this]; exact Int.le_refl _
set_option maxHeartbeats 6400000 in
theorem iNew (n : Nat) (w : World) (Cl : List (List Int)) (cv : Value) (hr : RS 1 RIntS w 0 Cl cv) (hC : ∀ c ∈ Cl, Lits n c) (hL : ∀ c ∈ Cl, c.length ≤ 4194304) (hlen : Cl.length ≤ 8192) (hn : n ≤ 2048) : Calls Try.prog 18 #[.int .i64 (n : Int), cv] w fun e w' => ∃ s : FS, e = .returned (.pointer (some ⟨s.b, 0, none⟩)) ∧ AD w.heap.size n w Cl s w' := by
  obtain ⟨ca, cc, rfl⟩ := hr.slice
  have HR := hide hr
  have HC := hide hC
  have HL := hide hL
  clear hr hC hL
  go_enter Try.func18, Try.ntmps18
  go_wp2_with fail
  refine nfRow hn rfl rfl rfl _ rfl rfl ?_
  intro a V hnt hdf hkeep hf hb
  obtain ⟨us, rfl, hus⟩ := putAll_of [8, 9, 10, 11, 12, 13, 14, 15, 16, 17, 18, 19, 20, 5] hnt hdf hkeep
  rw [← hus 5] at hf
  obtain ⟨s0, h5, had⟩ := AD.start hf hb
  clear hnt hdf hkeep hus hf
  simp only [putAll, List.foldl, Act.put, List.setIfInBounds_toArray, List.set_cons_zero, List.set_cons_succ, h5]
  generalize us 8 = z8 at *
  generalize us 9 = z9 at *
  generalize us 10 = z10 at *
  generalize us 11 = z11 at *
  generalize us 12 = z12 at *
  generalize us 13 = z13 at *
  generalize us 14 = z14 at *
  generalize us 15 = z15 at *
  generalize us 16 = z16 at *
  generalize us 17 = z17 at *
  generalize us 18 = z18 at *
  generalize us 19 = z19 at *
  generalize us 20 = z20 at *
  clear h5
  have HAD := hide had
  clear had hb
  go_wp2
  go_loopw [23] (fun i wr => ∃ (j : Nat) (s : FS), j ≤ Cl.length ∧ i = .int .i64 (j : Int) ∧ s.b = s0.b ∧ AD w.heap.size n w (Cl.take j) s wr) (fun i wr => Cl.length - (intOf i).toNat)
  case atStart => exact ⟨0, s0, Nat.zero_le _, rfl, rfl, unhide HAD⟩
  case round =>
    obtain ⟨j, s, hj, rfl, hsb, had⟩ := hrel
    clear HAD
    by_cases hjl : j < Cl.length
    · obtain ⟨y, hy⟩ : ∃ y, Cl[j]? = some y := ⟨_, List.getElem?_eq_getElem hjl⟩
      obtain ⟨sb, so, ya, yc, rfl, k0', hry⟩ := heads (unhide HR) j y hy
      have k0 := cell_later had.bl k0'
      have hym := List.mem_of_getElem? hy
      have HA := hide (iAdd had rfl y _ (unhide HC y hym) (unhide HL y hym) hry (by have := List.length_take_le j Cl; omega) hn)
      rw [hsb] at HA
      have HTK : Hid (Cl.take (j + 1) = Cl.take j ++ [y]) := hide (by rw [List.take_add_one, hy]; rfl)
      have j1 : (j : Int) < (Cl.length : Int) := by omega
      have j2 : (0 : Int) ≤ (j : Int) := by omega
      clear had k0' hry hy hym
      go_wp2_with fail
      refine (unhide HA).mono ?_
      rintro e W1 ⟨rfl, s', hb', had'⟩
      have HN := hide had'
      rw [← unhide HTK] at HN
      have hbb : s'.b = s0.b := hb'.trans hsb
      clear had' HA
      go_wp2
      exact ⟨⟨j + 1, s', by omega, by go_num, hbb, unhide HN⟩, by simp [intOf]; omega⟩
    · have hje : j = Cl.length := by omega
      rw [hje, List.take_of_length_le (Nat.le_refl _)] at had
      have j1 : ¬ ((j : Int) < (Cl.length : Int)) := by omega
      have HE := hide had
      clear had
      go_wp2
      exact bodyPost_ret (v := .pointer (some ⟨s0.b, 0, none⟩)) (by simp [results, Try.results18, go_sem]) rfl ⟨s, by rw [hsb], unhide HE⟩
end Go.Proofs.Ytonfbnbkhpabbaa
