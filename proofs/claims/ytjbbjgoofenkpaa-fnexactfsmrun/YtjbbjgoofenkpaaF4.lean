/- The program's rowFits: behind its two rows. -/
import Derived.Test.YtjbbjgoofenkpaaF3
import Derived.Test.YtjbbjgoofenkpaaRW2
namespace Go.Proofs.Ytjbbjgoofenkpaa
open Go.RowKit Gs
set_option linter.unusedVariables false
set_option linter.unusedSimpArgs false
set_option maxRecDepth 100000
attribute [local go_sem] Oper.semAt_some
def tl : Nat → Go.Code → Go.Code
  | 0, c => c
  | n + 1, .seq _ b => tl n b
  | _ + 1, c => c
def bodyOf (f : Func) : Go.Code := match f.body with | some c => c | none => .skip
/-- One input of a row. -/
def inB (ob : Int) (N2 : Nat) (xs : List Int) (ys : List ByteArray) (i : Nat) : Bool := knownS (ys.getD i ByteArray.empty) && decide (((ys.getD i ByteArray.empty).size : Int) = ob) && (decide (0 ≤ xs.getD i 0) && decide (xs.getD i 0 < (N2 : Int)))
/-- A row of a machine. -/
def rowB (ins ob : Int) (N2 : Nat) (xs : List Int) (ys : List ByteArray) : Bool := decide (xs.length = cntI ins) && decide (ys.length = cntI ins) && (List.range (cntI ins)).all (inB ob N2 xs ys)
def FR2 (ins ob : Int) (v2 v3 v4 : Value) (x1 x2 : Option Addr) (n1 n2 y1 y2 N : Nat) : Nat → Value → Prop
  | 0, v => v = .slice x1 n1 y1
  | 1, v => v = .int .i64 (n1 : Int)
  | 2, v => v = .agg #[.int .i64 ins, .int .i64 ob, v2, v3, v4]
  | 3, v => v = .int .i64 (N : Int)
  | 4, v => v = .bool ((n1 : Int) != (N : Int))
  | 5, v => v = .bool ((n1 : Int) != (N : Int))
  | 6, v => ((n1 : Int) != (N : Int)) = false → v = .slice x2 n2 y2
  | 7, v => ((n1 : Int) != (N : Int)) = false → v = .int .i64 (n2 : Int)
  | 8, v => ((n1 : Int) != (N : Int)) = false → v = .agg #[.int .i64 ins, .int .i64 ob, v2, v3, v4]
  | 9, v => ((n1 : Int) != (N : Int)) = false → v = .int .i64 (N : Int)
  | 10, v => ((n1 : Int) != (N : Int)) = false → v = .bool ((n2 : Int) != (N : Int))
  | 11, v => v = .bool (((n1 : Int) != (N : Int)) || ((n2 : Int) != (N : Int)))
  | _, _ => True
def FR7 (ok : Bool) (n ob z : Int) (b8 B i bx ox n1 y1 N2 c2 : Nat) (a2 : Option Addr) : Nat → Value → Prop
  | 0, v => v = .bool ok
  | 1, v => v = .bool (!ok)
  | 2, v => v = .bool (!ok)
  | 3, v => (!ok) = false → v = .pointer (some ⟨b8, 0, none⟩)
  | 4, v => (!ok) = false → v = .int .i64 n
  | 5, v => (!ok) = false → v = .pointer (some ⟨B, 1, none⟩)
  | 6, v => (!ok) = false → v = .int .i64 ob
  | 7, v => (!ok) = false → v = .bool (n != ob)
  | 8, v => v = .bool ((!ok) || (n != ob))
  | 9, v => v = .bool ((!ok) || (n != ob))
  | 10, v => ((!ok) || (n != ob)) = false → v = .slice (some ⟨bx, ox, none⟩) n1 y1
  | 11, v => ((!ok) || (n != ob)) = false → v = .int .i64 (i : Int)
  | 12, v => ((!ok) || (n != ob)) = false → v = .pointer (some ⟨bx, ox + i, none⟩)
  | 13, v => ((!ok) || (n != ob)) = false → v = .int .i64 z
  | 14, v => ((!ok) || (n != ob)) = false → v = .pointer (some ⟨B, 2, none⟩)
  | 15, v => ((!ok) || (n != ob)) = false → v = .slice a2 N2 c2
  | 16, v => ((!ok) || (n != ob)) = false → v = .int .i64 (N2 : Int)
  | 17, v => ((!ok) || (n != ob)) = false → v = .bool (decide (0 ≤ z) && decide (z < (N2 : Int)))
  | 18, v => ((!ok) || (n != ob)) = false → v = .bool (!(decide (0 ≤ z) && decide (z < (N2 : Int))))
  | 19, v => v = .bool (((!ok) || (n != ob)) || (!(decide (0 ≤ z) && decide (z < (N2 : Int)))))
  | _, _ => True
theorem iPlaceX (z : Int) (N2 : Nat) (V : World) : Calls Try.prog 24 #[.int .i64 z, .int .i64 (N2 : Int)] V fun e w' => e = .returned (.bool (decide (0 ≤ z) && decide (z < (N2 : Int)))) ∧ Below V.heap.size V w' := by
  refine (iPlace z N2 V).mono ?_
  rintro e w' ⟨rfl, rfl⟩
  exact ⟨rfl, brf _⟩
theorem keepsFrom_below {B : Nat} {W V : World} (h : Below W.heap.size W V) : KeepsFrom B W V := ⟨h.size, fun k o _ hk _ => (h.block k (Array.getElem?_eq_some_iff.1 hk).1).trans hk⟩
set_option maxHeartbeats 16000000 in
open Go.Shelf in
theorem iRowTail (ins ob : Int) (N2 n1 n2 c2 y1 y2 B R b5 b6 : Nat) (a2 x1 x2 : Option Addr) (v3 v4 : Value) (xs : List Int) (ys : List ByteArray) (w W : World) (h0 : 0 ≤ ins) (h5 : ins ≤ 5)
    (hn1 : n1 = xs.length) (hn2 : n2 = ys.length) (r1 : RS 1 RInt w 0 xs (.slice x1 n1 y1)) (r2 : RS 1 RStr w 0 ys (.slice x2 n2 y2)) (hN2 : N2 ≤ 64)
    (hb : Below w.heap.size w W) (hcs : (W.cell? ⟨B, 0, none⟩ = some (.int .i64 ins) ∧ W.cell? ⟨B, 1, none⟩ = some (.int .i64 ob) ∧ W.cell? ⟨B, 2, none⟩ = some (.slice a2 N2 c2) ∧ W.cell? ⟨B, 3, none⟩ = some v3 ∧ W.cell? ⟨B, 4, none⟩ = some v4 ∧ W.cell? ⟨b5, 0, none⟩ = some (.slice x1 n1 y1) ∧ W.cell? ⟨b6, 0, none⟩ = some (.slice x2 n2 y2))) (hR : W.cell? ⟨R, 0, none⟩ = some (.bool false)) (hRf : W.frozen? ⟨R, 0, none⟩ = false) (hRw : w.heap.size ≤ R) (hRB : R ≠ B) (hR5 : R ≠ b5) (hR6 : R ≠ b6)
    (u0 u1 u3 u7 u8 u9 u10 u11 u12 u13 u14 u15 u16 u17 u18 u19 u20 u21 u22 u23 u24 u25 u26 u27 u28 u29 u30 u31 u32 u33 u34 u35 u36 u37 u38 u39 u40 u41 u42 u43 u44 u45 u46 u47 u48 u49 u50 u51 u52 u53 u54 u55 u56 u57 u58 u59 u60 u61 u62 : Value) :
    Code.wp Try.prog (tl 2 (bodyOf Try.f36)) (bodyPostM Fence.wide 6 Try.prog Try.f36 fun e w' => e = .returned (.bool (rowB ins ob N2 xs ys)) ∧ Below w.heap.size w w') { tmps := #[u0, u1, .pointer (some ⟨B, 0, none⟩), u3, .pointer (some ⟨R, 0, none⟩), .pointer (some ⟨b5, 0, none⟩), .pointer (some ⟨b6, 0, none⟩), u7, u8, u9, u10, u11, u12, u13, u14, u15, u16, u17, u18, u19, u20, u21, u22, u23, u24, u25, u26, u27, u28, u29, u30, u31, u32, u33, u34, u35, u36, u37, u38, u39, u40, u41, u42, u43, u44, u45, u46, u47, u48, u49, u50, u51, u52, u53, u54, u55, u56, u57, u58, u59, u60, u61, u62], defers := [] } W := by
  have CN := hide (fun V => iCount ins ob (.slice a2 N2 c2) v3 v4 V h0 h5)
  have HC : Hid (∀ V, Below W.heap.size W V → (V.cell? ⟨B, 0, none⟩ = some (.int .i64 ins) ∧ V.cell? ⟨B, 1, none⟩ = some (.int .i64 ob) ∧ V.cell? ⟨B, 2, none⟩ = some (.slice a2 N2 c2) ∧ V.cell? ⟨B, 3, none⟩ = some v3 ∧ V.cell? ⟨B, 4, none⟩ = some v4 ∧ V.cell? ⟨b5, 0, none⟩ = some (.slice x1 n1 y1) ∧ V.cell? ⟨b6, 0, none⟩ = some (.slice x2 n2 y2))) := hide (fun V h => by
    obtain ⟨q0, q1, q2, q3, q4, q5, q6⟩ := hcs
    exact ⟨cell_later h q0, cell_later h q1, cell_later h q2, cell_later h q3, cell_later h q4, cell_later h q5, cell_later h q6⟩)
  have hNs := cntI_small h5
  obtain ⟨N, hN⟩ : ∃ N, cntI ins = N := ⟨_, rfl⟩
  have HRB := hide (show rowB ins ob N2 xs ys = (decide (n1 = N) && decide (n2 = N) && (List.range N).all (inB ob N2 xs ys)) by unfold rowB; rw [hN, hn1, hn2])
  rw [hN] at CN hNs
  conv => arg 2; whnf
  go_wp2
  refine wp_plan (GF (FR2 ins ob (.slice a2 N2 c2) v3 v4 x1 x2 n1 n2 y1 y2 N)) (JB W) (by kernel_rfl) 63 (by kernel_rfl) (by kernel_rfl) ?hj ?hs ?hf
  case hj => exact bdr (brf W)
  case hs =>
    refine ⟨?_, ?_, ?_, ?_, ?_, ?_, ?_, ?_, ?_, ?_, ?_, ?_, trivial⟩
    · exact st_val rfl (fun l a V hp ha => ⟨.slice x1 n1 y1, by
        have x5 := (ev_form a 5).trans (old hp 5 (v := .pointer (some ⟨b5, 0, none⟩)) (by kernel_rfl) (by kernel_rfl))
        obtain ⟨q0, q1, q2, q3, q4, q5, q6⟩ := unhide HC V hp.j
        go_simp, rfl⟩)
    · exact st_val rfl (fun l a V hp ha => ⟨.int .i64 (n1 : Int), by
        have x20 := (ev_form a 20).trans (show a.eval (.tmp 20) = .slice x1 n1 y1 from kn hp ha 20 0 (by kernel_rfl) (by kernel_rfl))
        go_simp, rfl⟩)
    · exact st_val rfl (fun l a V hp ha => ⟨.agg #[.int .i64 ins, .int .i64 ob, .slice a2 N2 c2, v3, v4], by
        have x2 := (ev_form a 2).trans (old hp 2 (v := .pointer (some ⟨B, 0, none⟩)) (by kernel_rfl) (by kernel_rfl))
        obtain ⟨q0, q1, q2, q3, q4, q5, q6⟩ := unhide HC V hp.j
        go_simp, rfl⟩)
    · exact st_call (f := 25) rfl (fun l a V hp ha => ⟨#[.agg #[.int .i64 ins, .int .i64 ob, .slice a2 N2 c2, v3, v4]], by
        have x22 := (ev_form a 22).trans (show a.eval (.tmp 22) = .agg #[.int .i64 ins, .int .i64 ob, .slice a2 N2 c2, v3, v4] from kn hp ha 22 2 (by kernel_rfl) (by kernel_rfl))
        go_simp, (unhide CN V).mono (by rintro e V1 ⟨rfl, hb⟩; exact ⟨_, rfl, rfl, hb⟩)⟩)
    · exact st_val rfl (fun l a V hp ha => ⟨.bool ((n1 : Int) != (N : Int)), by
        have x21 := (ev_form a 21).trans (show a.eval (.tmp 21) = .int .i64 (n1 : Int) from kn hp ha 21 1 (by kernel_rfl) (by kernel_rfl))
        have x23 := (ev_form a 23).trans (show a.eval (.tmp 23) = .int .i64 (N : Int) from kn hp ha 23 3 (by kernel_rfl) (by kernel_rfl))
        go_simp, rfl⟩)
    · exact st_val rfl (fun l a V hp ha => ⟨.bool ((n1 : Int) != (N : Int)), by
        have x24 := (ev_form a 24).trans (show a.eval (.tmp 24) = .bool ((n1 : Int) != (N : Int)) from kn hp ha 24 4 (by kernel_rfl) (by kernel_rfl))
        go_simp, rfl⟩)
    · exact st_valg (c := ((n1 : Int) != (N : Int))) rfl rfl (by simp) (by kernel_rfl) (fun v h => h) (fun hn hc => absurd hc hn) (fun l a V hp ha hc => ⟨.slice x2 n2 y2, by
        have x6 := (ev_form a 6).trans (old hp 6 (v := .pointer (some ⟨b6, 0, none⟩)) (by kernel_rfl) (by kernel_rfl))
        obtain ⟨q0, q1, q2, q3, q4, q5, q6⟩ := unhide HC V hp.j
        go_simp, fun _ => rfl⟩)
    · exact st_valg (c := ((n1 : Int) != (N : Int))) rfl rfl (by simp) (by kernel_rfl) (fun v h => h) (fun hn hc => absurd hc hn) (fun l a V hp ha hc => ⟨.int .i64 (n2 : Int), by
        have x26 := (ev_form a 26).trans (show a.eval (.tmp 26) = .slice x2 n2 y2 from (kn hp ha 26 6 (by kernel_rfl) (by kernel_rfl)) hc)
        go_simp, fun _ => rfl⟩)
    · exact st_valg (c := ((n1 : Int) != (N : Int))) rfl rfl (by simp) (by kernel_rfl) (fun v h => h) (fun hn hc => absurd hc hn) (fun l a V hp ha hc => ⟨.agg #[.int .i64 ins, .int .i64 ob, .slice a2 N2 c2, v3, v4], by
        have x2 := (ev_form a 2).trans (old hp 2 (v := .pointer (some ⟨B, 0, none⟩)) (by kernel_rfl) (by kernel_rfl))
        obtain ⟨q0, q1, q2, q3, q4, q5, q6⟩ := unhide HC V hp.j
        go_simp, fun _ => rfl⟩)
    · exact st_callg (f := 25) (c := ((n1 : Int) != (N : Int))) rfl rfl (by simp) (by kernel_rfl) (fun v h => h) (fun hn hc => absurd hc hn) (fun l a V hp ha hc => ⟨#[.agg #[.int .i64 ins, .int .i64 ob, .slice a2 N2 c2, v3, v4]], by
        have x28 := (ev_form a 28).trans (show a.eval (.tmp 28) = .agg #[.int .i64 ins, .int .i64 ob, .slice a2 N2 c2, v3, v4] from (kn hp ha 28 8 (by kernel_rfl) (by kernel_rfl)) hc)
        go_simp, (unhide CN V).mono (by rintro e V1 ⟨rfl, hb⟩; exact ⟨_, rfl, fun _ => rfl, hb⟩)⟩)
    · exact st_valg (c := ((n1 : Int) != (N : Int))) rfl rfl (by simp) (by kernel_rfl) (fun v h => h) (fun hn hc => absurd hc hn) (fun l a V hp ha hc => ⟨.bool ((n2 : Int) != (N : Int)), by
        have x27 := (ev_form a 27).trans (show a.eval (.tmp 27) = .int .i64 (n2 : Int) from (kn hp ha 27 7 (by kernel_rfl) (by kernel_rfl)) hc)
        have x29 := (ev_form a 29).trans (show a.eval (.tmp 29) = .int .i64 (N : Int) from (kn hp ha 29 9 (by kernel_rfl) (by kernel_rfl)) hc)
        go_simp, fun _ => rfl⟩)
    · refine st_val rfl (fun l a V hp ha => ?_)
      have x25 := (ev_form a 25).trans (show a.eval (.tmp 25) = .bool ((n1 : Int) != (N : Int)) from kn hp ha 25 5 (by kernel_rfl) (by kernel_rfl))
      have k10 := kn hp ha 30 10 (by kernel_rfl) (by kernel_rfl)
      have hF : ∀ c : Bool, ((n1 : Int) != (N : Int)) = c → ∃ x, (execOp a.eval { dst := some 31, op := .pick (.tmp 25) (.const (.bool true)) (.tmp 30), type := 4, pos := "l09_fsm.go:69", after := #[{ on := 5, ground := .data }, { on := 10, ground := .data }], guard := none }).run Try.prog V = .ok (.value x) V ∧ x = .bool (((n1 : Int) != (N : Int)) || ((n2 : Int) != (N : Int))) := by
        intro c hc
        cases c with
        | true =>
          rw [hc] at x25 ⊢
          exact ⟨.bool true, by go_simp, rfl⟩
        | false =>
          have x30 := (ev_form a 30).trans (show a.eval (.tmp 30) = .bool ((n2 : Int) != (N : Int)) from k10 hc)
          rw [hc] at x25 ⊢
          exact ⟨.bool ((n2 : Int) != (N : Int)), by go_simp, by rw [Bool.false_or]⟩
      exact hF _ rfl
  case hf =>
    intro l a V hp hall
    have hv31 := hp.good 11 _ 31 rfl rfl (hall 11 (by decide))
    have HBV := hide hp.j
    obtain ⟨us, rfl, hus⟩ := putAll_of [20, 21, 22, 23, 24, 25, 26, 27, 28, 29, 30, 31] hp.nt hp.df (fun t ht => hp.keep t (dstIn (by kernel_rfl) ht))
    have hu31 : us 31 = .bool (((n1 : Int) != (N : Int)) || ((n2 : Int) != (N : Int))) := (hus 31).trans hv31
    clear hp hall hv31 hus
    simp only [putAll, List.foldl, Act.put, List.setIfInBounds_toArray, List.set_cons_zero, List.set_cons_succ, hu31]
    clear hu31
    have HRV := hide (cell_later (unhide HBV) hR)
    have HRF := hide (frozen_later (unhide HBV) hR hRf)
    have HBw := hide (btr hb (unhide HBV))
    obtain ⟨cc, hcc⟩ : ∃ cc : Bool, ((((n1 : Int) != (N : Int)) || ((n2 : Int) != (N : Int)))) = cc := ⟨_, rfl⟩
    rw [hcc]
    have hmf : ∀ (fn : Fn) (first cap : Array Value) (w : World), (Instr.makeFunc fn first cap).run Try.prog w = .ok (.func fn first cap) w := fun _ _ _ _ => rfl
    cases cc with
    | true =>
      have HF := hide (show rowB ins ob N2 xs ys = false by
        rw [unhide HRB]
        by_cases e1 : n1 = N
        · by_cases e2 : n2 = N
          · rw [e1, e2] at hcc; simp at hcc
          · simp [e2]
        · simp [e1])
      have m0 := unhide HRV
      have m1 := unhide HRF
      clear hcs hR hRf r1 r2 hcc
      go_wp2
      have hc5 := World.cell?_setCell_same (w := V) (a := ⟨R, 0, none⟩) (v := .bool false) m0
      refine ⟨.bool false, by simp [results, Try.results36, go_sem, hc5], by rw [unhide HF], bst (unhide HBw) hRw _⟩
    | false =>
      have hnn : n1 = N ∧ n2 = N := by
        rw [Bool.or_eq_false_iff] at hcc
        obtain ⟨e1, e2⟩ := hcc
        simp at e1 e2
        omega
      obtain ⟨q0, q1, q2, q3, q4, q5, q6⟩ := unhide HC V (unhide HBV)
      go_wp2
      refine (wpIn_wide (n := 6)).1 ?_
      have hbV := unhide HBw
      have hszV := hbV.size
      refine wpIn_rangeB (gf := 40) (fs := #[.agg #[.int .i64 ins, .int .i64 ob, .slice a2 N2 c2, v3, v4]]) rfl (by omega) rfl trivial (enters_of Try.func40 (by kernel_rfl) rfl) (iInputs 5 ins ob (.slice a2 N2 c2) v3 v4 h0 h5 (by omega) _)
        (fun pre V => Below w.heap.size w V ∧ (V.cell? ⟨B, 0, none⟩ = some (.int .i64 ins) ∧ V.cell? ⟨B, 1, none⟩ = some (.int .i64 ob) ∧ V.cell? ⟨B, 2, none⟩ = some (.slice a2 N2 c2) ∧ V.cell? ⟨B, 3, none⟩ = some v3 ∧ V.cell? ⟨B, 4, none⟩ = some v4 ∧ V.cell? ⟨b5, 0, none⟩ = some (.slice x1 n1 y1) ∧ V.cell? ⟨b6, 0, none⟩ = some (.slice x2 n2 y2)) ∧ V.cell? ⟨R, 0, none⟩ = some (.bool false) ∧ V.frozen? ⟨R, 0, none⟩ = false ∧ ∀ i, i < pre.length → inB ob N2 xs ys i = true)
        (fun pre V => Below w.heap.size w V ∧ V.cell? ⟨R, 0, none⟩ = some (.bool false) ∧ rowB ins ob N2 xs ys = false)
        (fun s W X h k => ⟨h.1.trans (k.under hszV h.1.size), ⟨k.cell h.2.1.1, k.cell h.2.1.2.1, k.cell h.2.1.2.2.1, k.cell h.2.1.2.2.2.1, k.cell h.2.1.2.2.2.2.1, k.cell h.2.1.2.2.2.2.2.1, k.cell h.2.1.2.2.2.2.2.2⟩, k.cell h.2.2.1, (k.frozen h.2.2.1).trans h.2.2.2.1, h.2.2.2.2⟩)
        (fun s W X h k => ⟨h.1.trans (k.under hszV h.1.size), k.cell h.2.1, h.2.2⟩)
        (fun s W h => trivial) ⟨hbV, ⟨q0, q1, q2, q3, q4, q5, q6⟩, unhide HRV, unhide HRF, fun i hi => absurd hi (Nat.not_lt_zero _)⟩
        (fun x => { tmps := #[u0, u1, .pointer (some ⟨B, 0, none⟩), u3, .pointer (some ⟨R, 0, none⟩), .pointer (some ⟨b5, 0, none⟩), .pointer (some ⟨b6, 0, none⟩), .int .i64 (x : Int), u8, u9, u10, u11, u12, u13, u14, u15, u16, u17, u18, u19, us 20, us 21, us 22, us 23, us 24, us 25, us 26, us 27, us 28, us 29, us 30, .bool false, .agg #[.int .i64 ins, .int .i64 ob, .slice a2 N2 c2, v3, v4], .func (.func 40) #[.agg #[.int .i64 ins, .int .i64 ob, .slice a2 N2 c2, v3, v4]] #[], .int .i64 (x : Int), u35, u36, u37, u38, u39, u40, u41, u42, u43, u44, u45, u46, u47, u48, u49, u50, u51, u52, u53, u54, u55, u56, u57, u58, u59, u60, u61, u62], defers := [] }) ?assign ?body ?done ?stop
      case assign =>
        intro l x W K hK
        gi_wp2
        exact hK
      case body =>
        rintro l pre x V1 ⟨hB1, hbx, hr1, hf1, hall⟩ ⟨hx, hlt⟩
        rw [hN] at hlt
        obtain ⟨e1, e2⟩ := hnn
        have hx1 : xs[x]? = some xs[x] := List.getElem?_eq_getElem (by omega)
        have hx2 : ys[x]? = some ys[x] := List.getElem?_eq_getElem (by omega)
        have hin : inB ob N2 xs ys x = (knownS ys[x] && decide (((ys[x]).size : Int) = ob) && (decide (0 ≤ xs[x]) && decide (xs[x] < (N2 : Int)))) := by
          unfold inB
          rw [List.getD_eq_getElem?_getD, List.getD_eq_getElem?_getD, hx1, hx2]; rfl
        generalize xs[x] = z at hx1 hin
        generalize ys[x] = y at hx2 hin
        rcases r1.open with ⟨hnil, _⟩ | ⟨bx, ox, cc1, ee1, _, _, _, hcs1⟩
        · rw [hnil] at hx1; simp at hx1
        rcases r2.open with ⟨hnil, _⟩ | ⟨by2, oy, cc2, ee2, _, _, _, hcs2⟩
        · rw [hnil] at hx2; simp at hx2
        obtain rfl : x1 = some ⟨bx, ox, none⟩ := by injection ee1
        obtain rfl : x2 = some ⟨by2, oy, none⟩ := by injection ee2
        obtain ⟨g1, _, at1, hg1⟩ := hcs1 x z hx1
        obtain rfl : g1 = [.int .i64 z] := hg1
        obtain ⟨g2, _, at2, hg2, hys⟩ := hcs2 x y hx2
        subst hg2
        have mz0 := cell_later hB1 (at1.get (j := 0) rfl)
        have my0 := cell_later hB1 (at2.get (j := 0) rfl)
        simp only [Nat.add_zero, Nat.mul_one] at mz0 my0
        obtain ⟨p0, p1, p2, p3, p4, p5, p6⟩ := id hbx
        have i1 : (x : Int) < (n2 : Int) := by omega
        have i2 : (x : Int) < (n1 : Int) := by omega
        have HIN := hide hin
        have HALL := hide hall
        have HB1 := hide hB1
        have HR1 := hide hr1
        have HF1 := hide hf1
        have HBX := hide hbx
        have KV := hide (iKnownX y V1 hys)
        have HXP := hide hx
        clear hx hn1 hn2 e1 e2 hcc
        clear hcs1 hcs2 ee1 ee2 at1 at2 r1 r2 hx1 hx2 hin hall hB1 hr1 hf1 hbx hcs q0 q1 q2 q3 q4 q5 q6 HC CN hR hRf hb HBV HRV HRF HBw hmf
        gi_wp2
        refine ⟨trivial, ?_⟩
        refine (CallsIn.inRound l (callsIn_wide.2 (unhide KV))).mono ?_
        rintro e V2 ⟨⟨n, aa, bb, rfl, hkn⟩, hb2⟩
        have HB2 := hide hb2
        have mz1 := cell_later hb2 mz0
        clear p0 p1 p2 p3 p4 p5 p6 mz0 my0 KV hb2
        gi_wp2
        obtain ⟨W7, hW7⟩ : ∃ W7, V2.alloc (.cells #[.int .i64 n, .int .u64 aa, .int .u64 bb] 59) = W7 := ⟨_, rfl⟩
        have hb27 : Below V2.heap.size V2 W7 := by rw [← hW7]; exact bal (brf _) _
        have hm8 : W7.cell? ⟨V2.heap.size, 0, none⟩ = some (.int .i64 n) := by rw [← hW7, World.cell?_alloc_new]; rfl
        have hmz := cell_later hb27 mz1
        have HB7 := hide (btr (unhide HB2) hb27)
        rw [hW7]
        clear hW7 hb27 mz1 HB2
        have HC7 : Hid (∀ V, Below W7.heap.size W7 V → (V.cell? ⟨B, 0, none⟩ = some (.int .i64 ins) ∧ V.cell? ⟨B, 1, none⟩ = some (.int .i64 ob) ∧ V.cell? ⟨B, 2, none⟩ = some (.slice a2 N2 c2) ∧ V.cell? ⟨B, 3, none⟩ = some v3 ∧ V.cell? ⟨B, 4, none⟩ = some v4 ∧ V.cell? ⟨b5, 0, none⟩ = some (.slice (some ⟨bx, ox, none⟩) n1 y1) ∧ V.cell? ⟨b6, 0, none⟩ = some (.slice (some ⟨by2, oy, none⟩) n2 y2))) := hide (fun V h => by
          obtain ⟨q0, q1, q2, q3, q4, q5, q6⟩ := unhide HBX
          have h' := btr (unhide HB7) h
          exact ⟨cell_later h' q0, cell_later h' q1, cell_later h' q2, cell_later h' q3, cell_later h' q4, cell_later h' q5, cell_later h' q6⟩)
        generalize V2.heap.size = b8 at *
        generalize hok : knownS y = ok at *
        refine wpIn_plan (GF (FR7 ok n ob z b8 B x bx ox n1 y1 N2 c2 a2)) (JB W7) (by kernel_rfl) 63 (by kernel_rfl) (by kernel_rfl) ?hj ?hs ?hf
        case hj => exact bdr (brf W7)
        case hs =>
          refine ⟨?_, ?_, ?_, ?_, ?_, ?_, ?_, ?_, ?_, ?_, ?_, ?_, ?_, ?_, ?_, ?_, ?_, ?_, ?_, ?_, trivial⟩
          · exact st_val rfl (fun l a V hp ha => ⟨.bool ok, by
              have x9 := (ev_form a 9).trans (old hp 9 (v := .bool ok) (by kernel_rfl) (by kernel_rfl))
              go_simp, rfl⟩)
          · exact st_val rfl (fun l a V hp ha => ⟨.bool (!ok), by
              have x43 := (ev_form a 43).trans (show a.eval (.tmp 43) = .bool ok from kn hp ha 43 0 (by kernel_rfl) (by kernel_rfl))
              go_simp, rfl⟩)
          · exact st_val rfl (fun l a V hp ha => ⟨.bool (!ok), by
              have x44 := (ev_form a 44).trans (show a.eval (.tmp 44) = .bool (!ok) from kn hp ha 44 1 (by kernel_rfl) (by kernel_rfl))
              go_simp, rfl⟩)
          · exact st_valg (c := (!ok)) rfl rfl (by simp) (by kernel_rfl) (fun v h => h) (fun hn hc => absurd hc hn) (fun l a V hp ha hc => ⟨.pointer (some ⟨b8, 0, none⟩), by
              have x8 := (ev_form a 8).trans (old hp 8 (v := .pointer (some ⟨b8, 0, none⟩)) (by kernel_rfl) (by kernel_rfl))
              go_simp, fun _ => rfl⟩)
          · exact st_valg (c := (!ok)) rfl rfl (by simp) (by kernel_rfl) (fun v h => h) (fun hn hc => absurd hc hn) (fun l a V hp ha hc => ⟨.int .i64 n, by
              have x46 := (ev_form a 46).trans (show a.eval (.tmp 46) = .pointer (some ⟨b8, 0, none⟩) from (kn hp ha 46 3 (by kernel_rfl) (by kernel_rfl)) hc)
              have m8 := cell_later hp.j hm8
              go_simp, fun _ => rfl⟩)
          · exact st_valg (c := (!ok)) rfl rfl (by simp) (by kernel_rfl) (fun v h => h) (fun hn hc => absurd hc hn) (fun l a V hp ha hc => ⟨.pointer (some ⟨B, 1, none⟩), by
              have x2 := (ev_form a 2).trans (old hp 2 (v := .pointer (some ⟨B, 0, none⟩)) (by kernel_rfl) (by kernel_rfl))
              go_simp, fun _ => rfl⟩)
          · exact st_valg (c := (!ok)) rfl rfl (by simp) (by kernel_rfl) (fun v h => h) (fun hn hc => absurd hc hn) (fun l a V hp ha hc => ⟨.int .i64 ob, by
              have x48 := (ev_form a 48).trans (show a.eval (.tmp 48) = .pointer (some ⟨B, 1, none⟩) from (kn hp ha 48 5 (by kernel_rfl) (by kernel_rfl)) hc)
              obtain ⟨q0, q1, q2, q3, q4, q5, q6⟩ := unhide HC7 V hp.j
              go_simp, fun _ => rfl⟩)
          · exact st_valg (c := (!ok)) rfl rfl (by simp) (by kernel_rfl) (fun v h => h) (fun hn hc => absurd hc hn) (fun l a V hp ha hc => ⟨.bool (n != ob), by
              have x47 := (ev_form a 47).trans (show a.eval (.tmp 47) = .int .i64 n from (kn hp ha 47 4 (by kernel_rfl) (by kernel_rfl)) hc)
              have x49 := (ev_form a 49).trans (show a.eval (.tmp 49) = .int .i64 ob from (kn hp ha 49 6 (by kernel_rfl) (by kernel_rfl)) hc)
              go_simp, fun _ => rfl⟩)
          · refine st_val rfl (fun l a V hp ha => ?_)
            have x45 := (ev_form a 45).trans (show a.eval (.tmp 45) = .bool (!ok) from kn hp ha 45 2 (by kernel_rfl) (by kernel_rfl))
            have k50 := kn hp ha 50 7 (by kernel_rfl) (by kernel_rfl)
            have hF : ∀ c : Bool, (!ok) = c → ∃ x, (execOp a.eval { dst := some 51, op := .pick (.tmp 45) (.const (.bool true)) (.tmp 50), type := 4, pos := "l09_fsm.go:74", after := #[{ on := 2, ground := .data }, { on := 7, ground := .data }], guard := none }).run Try.prog V = .ok (.value x) V ∧ x = .bool ((!ok) || (n != ob)) := by
              intro c hc
              cases c with
              | true =>
                rw [hc] at x45 ⊢
                exact ⟨.bool true, by go_simp, rfl⟩
              | false =>
                have x50 := (ev_form a 50).trans (show a.eval (.tmp 50) = .bool (n != ob) from k50 hc)
                rw [hc] at x45 ⊢
                exact ⟨.bool (n != ob), by go_simp, by rw [Bool.false_or]⟩
            exact hF _ rfl
          · exact st_val rfl (fun l a V hp ha => ⟨.bool ((!ok) || (n != ob)), by
              have x51 := (ev_form a 51).trans (show a.eval (.tmp 51) = .bool ((!ok) || (n != ob)) from kn hp ha 51 8 (by kernel_rfl) (by kernel_rfl))
              go_simp, rfl⟩)
          · exact st_valg (c := ((!ok) || (n != ob))) rfl rfl (by simp) (by kernel_rfl) (fun v h => h) (fun hn hc => absurd hc hn) (fun l a V hp ha hc => ⟨.slice (some ⟨bx, ox, none⟩) n1 y1, by
              have x5 := (ev_form a 5).trans (old hp 5 (v := .pointer (some ⟨b5, 0, none⟩)) (by kernel_rfl) (by kernel_rfl))
              obtain ⟨q0, q1, q2, q3, q4, q5, q6⟩ := unhide HC7 V hp.j
              go_simp, fun _ => rfl⟩)
          · exact st_valg (c := ((!ok) || (n != ob))) rfl rfl (by simp) (by kernel_rfl) (fun v h => h) (fun hn hc => absurd hc hn) (fun l a V hp ha hc => ⟨.int .i64 (x : Int), by
              have x7 := (ev_form a 7).trans (old hp 7 (v := .int .i64 (x : Int)) (by kernel_rfl) (by kernel_rfl))
              go_simp, fun _ => rfl⟩)
          · exact st_valg (c := ((!ok) || (n != ob))) rfl rfl (by simp) (by kernel_rfl) (fun v h => h) (fun hn hc => absurd hc hn) (fun l a V hp ha hc => ⟨.pointer (some ⟨bx, ox + x, none⟩), by
              have x53 := (ev_form a 53).trans (show a.eval (.tmp 53) = .slice (some ⟨bx, ox, none⟩) n1 y1 from (kn hp ha 53 10 (by kernel_rfl) (by kernel_rfl)) hc)
              have x54 := (ev_form a 54).trans (show a.eval (.tmp 54) = .int .i64 (x : Int) from (kn hp ha 54 11 (by kernel_rfl) (by kernel_rfl)) hc)
              go_simp, fun _ => rfl⟩)
          · exact st_valg (c := ((!ok) || (n != ob))) rfl rfl (by simp) (by kernel_rfl) (fun v h => h) (fun hn hc => absurd hc hn) (fun l a V hp ha hc => ⟨.int .i64 z, by
              have x55 := (ev_form a 55).trans (show a.eval (.tmp 55) = .pointer (some ⟨bx, ox + x, none⟩) from (kn hp ha 55 12 (by kernel_rfl) (by kernel_rfl)) hc)
              have mz := cell_later hp.j hmz
              go_simp, fun _ => rfl⟩)
          · exact st_valg (c := ((!ok) || (n != ob))) rfl rfl (by simp) (by kernel_rfl) (fun v h => h) (fun hn hc => absurd hc hn) (fun l a V hp ha hc => ⟨.pointer (some ⟨B, 2, none⟩), by
              have x2 := (ev_form a 2).trans (old hp 2 (v := .pointer (some ⟨B, 0, none⟩)) (by kernel_rfl) (by kernel_rfl))
              go_simp, fun _ => rfl⟩)
          · exact st_valg (c := ((!ok) || (n != ob))) rfl rfl (by simp) (by kernel_rfl) (fun v h => h) (fun hn hc => absurd hc hn) (fun l a V hp ha hc => ⟨.slice a2 N2 c2, by
              have x57 := (ev_form a 57).trans (show a.eval (.tmp 57) = .pointer (some ⟨B, 2, none⟩) from (kn hp ha 57 14 (by kernel_rfl) (by kernel_rfl)) hc)
              obtain ⟨q0, q1, q2, q3, q4, q5, q6⟩ := unhide HC7 V hp.j
              go_simp, fun _ => rfl⟩)
          · exact st_valg (c := ((!ok) || (n != ob))) rfl rfl (by simp) (by kernel_rfl) (fun v h => h) (fun hn hc => absurd hc hn) (fun l a V hp ha hc => ⟨.int .i64 (N2 : Int), by
              have x58 := (ev_form a 58).trans (show a.eval (.tmp 58) = .slice a2 N2 c2 from (kn hp ha 58 15 (by kernel_rfl) (by kernel_rfl)) hc)
              go_simp, fun _ => rfl⟩)
          · exact st_callg (f := 24) (c := ((!ok) || (n != ob))) rfl rfl (by simp) (by kernel_rfl) (fun v h => h) (fun hn hc => absurd hc hn) (fun l a V hp ha hc => ⟨#[.int .i64 z, .int .i64 (N2 : Int)], by
              have x56 := (ev_form a 56).trans (show a.eval (.tmp 56) = .int .i64 z from (kn hp ha 56 13 (by kernel_rfl) (by kernel_rfl)) hc)
              have x59 := (ev_form a 59).trans (show a.eval (.tmp 59) = .int .i64 (N2 : Int) from (kn hp ha 59 16 (by kernel_rfl) (by kernel_rfl)) hc)
              go_simp, (iPlaceX z N2 V).mono (by rintro e V1 ⟨rfl, hb⟩; exact ⟨_, rfl, fun _ => rfl, hb⟩)⟩)
          · exact st_valg (c := ((!ok) || (n != ob))) rfl rfl (by simp) (by kernel_rfl) (fun v h => h) (fun hn hc => absurd hc hn) (fun l a V hp ha hc => ⟨.bool (!(decide (0 ≤ z) && decide (z < (N2 : Int)))), by
              have x60 := (ev_form a 60).trans (show a.eval (.tmp 60) = .bool (decide (0 ≤ z) && decide (z < (N2 : Int))) from (kn hp ha 60 17 (by kernel_rfl) (by kernel_rfl)) hc)
              go_simp, fun _ => rfl⟩)
          · refine st_val rfl (fun l a V hp ha => ?_)
            have x52 := (ev_form a 52).trans (show a.eval (.tmp 52) = .bool ((!ok) || (n != ob)) from kn hp ha 52 9 (by kernel_rfl) (by kernel_rfl))
            have k61 := kn hp ha 61 18 (by kernel_rfl) (by kernel_rfl)
            have hF : ∀ c : Bool, ((!ok) || (n != ob)) = c → ∃ x, (execOp a.eval { dst := some 62, op := .pick (.tmp 52) (.const (.bool true)) (.tmp 61), type := 4, pos := "l09_fsm.go:74", after := #[{ on := 9, ground := .data }, { on := 18, ground := .data }], guard := none }).run Try.prog V = .ok (.value x) V ∧ x = .bool (((!ok) || (n != ob)) || (!(decide (0 ≤ z) && decide (z < (N2 : Int))))) := by
              intro c hc
              cases c with
              | true =>
                rw [hc] at x52 ⊢
                exact ⟨.bool true, by go_simp, rfl⟩
              | false =>
                have x61 := (ev_form a 61).trans (show a.eval (.tmp 61) = .bool (!(decide (0 ≤ z) && decide (z < (N2 : Int)))) from k61 hc)
                rw [hc] at x52 ⊢
                exact ⟨.bool (!(decide (0 ≤ z) && decide (z < (N2 : Int)))), by go_simp, by rw [Bool.false_or]⟩
            exact hF _ rfl
        case hf =>
          intro l7 a V hp hdone
          have hv62 := hp.good 19 _ 62 rfl rfl (hdone 19 (by decide))
          have HBV7 := hide (btr (unhide HB7) hp.j)
          obtain ⟨us7, rfl, hus⟩ := putAll_of [43, 44, 45, 46, 47, 48, 49, 50, 51, 52, 53, 54, 55, 56, 57, 58, 59, 60, 61, 62] hp.nt hp.df (fun t ht => hp.keep t (dstIn (by kernel_rfl) ht))
          have hu62 : us7 62 = .bool (((!ok) || (n != ob)) || (!(decide (0 ≤ z) && decide (z < (N2 : Int))))) := (hus 62).trans hv62
          clear hp hdone hv62 hus
          simp only [putAll, List.foldl, Act.put, List.setIfInBounds_toArray, List.set_cons_zero, List.set_cons_succ, hu62]
          clear hu62
          have hinv : inB ob N2 xs ys x = !((((!ok) || (n != ob)) || (!(decide (0 ≤ z) && decide (z < (N2 : Int)))))) := by
            rw [unhide HIN]
            cases ok with
            | false => rfl
            | true =>
              rw [hkn rfl]
              have e : (((y.size : Nat) : Int) != ob) = !decide (((y.size : Nat) : Int) = ob) := rfl
              rw [e]
              simp
          generalize ((((!ok) || (n != ob)) || (!(decide (0 ≤ z) && decide (z < (N2 : Int)))))) = bad at hinv ⊢
          cases bad with
          | true =>
            have m0 := cell_later (unhide HBV7) (unhide HR1)
            have m1 := frozen_later (unhide HBV7) (unhide HR1) (unhide HF1)
            have HNO := hide (show rowB ins ob N2 xs ys = false by
              rw [unhide HRB, Bool.and_eq_false_iff]
              right
              rw [List.all_eq_false]
              exact ⟨x, List.mem_range.2 hlt, by rw [hinv]; decide⟩)
            have hB0 := (unhide HB1)
            clear hinv
            gi_wp2
            exact ⟨(keepsFrom_below (unhide HBV7)).trans ((KeepsOthers.setCell _ _ _).from _), bst (btr hB0 (unhide HBV7)) hRw _, World.cell?_setCell_same (w := V) (a := ⟨R, 0, none⟩) (v := _) m0, unhide HNO⟩
          | false =>
            have HA := hide (show ∀ i, i < (pre ++ [x]).length → inB ob N2 xs ys i = true by
              intro i hi
              simp at hi
              by_cases e : i = pre.length
              · rw [e, ← unhide HXP, hinv]; rfl
              · exact unhide HALL i (by omega))
            have HBXV : Hid ((V.cell? ⟨B, 0, none⟩ = some (.int .i64 ins) ∧ V.cell? ⟨B, 1, none⟩ = some (.int .i64 ob) ∧ V.cell? ⟨B, 2, none⟩ = some (.slice a2 N2 c2) ∧ V.cell? ⟨B, 3, none⟩ = some v3 ∧ V.cell? ⟨B, 4, none⟩ = some v4 ∧ V.cell? ⟨b5, 0, none⟩ = some (.slice (some ⟨bx, ox, none⟩) n1 y1) ∧ V.cell? ⟨b6, 0, none⟩ = some (.slice (some ⟨by2, oy, none⟩) n2 y2))) := hide (by
              obtain ⟨q0, q1, q2, q3, q4, q5, q6⟩ := unhide HBX
              have h' := unhide HBV7
              exact ⟨cell_later h' q0, cell_later h' q1, cell_later h' q2, cell_later h' q3, cell_later h' q4, cell_later h' q5, cell_later h' q6⟩)
            clear hinv
            gi_wp2
            exact ⟨keepsFrom_below (unhide HBV7), btr (unhide HB1) (unhide HBV7), unhide HBXV, cell_later (unhide HBV7) (unhide HR1), frozen_later (unhide HBV7) (unhide HR1) (unhide HF1), unhide HA⟩
      case done =>
        rintro D ps V1 hD hS ⟨hB1, hbx, hr1, hf1, hall⟩ hK
        have HT := hide (show rowB ins ob N2 xs ys = true by
          obtain ⟨e1, e2⟩ := hnn
          rw [unhide HRB, e1, e2]
          simp only [decide_true, Bool.true_and, List.all_eq_true, List.mem_range]
          exact fun i hi => hall i (by rw [hS, hN]; exact hi))
        go_wp2
        have hK' := (KeepsOthers.setCell V1 ⟨R, 0, none⟩ (.bool true)).same D _ hK rfl
        refine ⟨by simp, .inl ⟨_, _, rfl, run_takeDeferred hK', ?_⟩⟩
        have hn : Near V.heap.size (V1.setCell ⟨R, 0, none⟩ (.bool true)) ((V1.setCell ⟨R, 0, none⟩ (.bool true)).putObj D (.deferred none)) := .turn _ hD hK' rfl
        have hc5 := hn.cell (World.cell?_setCell_same (w := V1) (a := ⟨R, 0, none⟩) (v := (.bool true)) hr1)
        have hB5 := bst hB1 (show w.heap.size ≤ (⟨R, 0, none⟩ : Addr).block from hRw) (.bool true)
        refine ⟨.bool true, ?_, by rw [unhide HT], hB5.trans (hn.under hszV hB5.size)⟩
        simp [results, Try.results36, go_sem, hc5]
      case stop =>
        rintro D ps V1 hD hS ⟨hB1, hr1, hno⟩ hK
        gi_wp2
        refine ⟨by simp, .inl ⟨_, _, rfl, run_takeDeferred hK, ?_⟩⟩
        have hn : Near V.heap.size V1 (V1.putObj D (.deferred none)) := .turn _ hD hK rfl
        have hc5 := hn.cell hr1
        refine ⟨.bool false, ?_, by rw [hno], hB1.trans (hn.under hszV hB1.size)⟩
        simp [results, Try.results36, go_sem, hc5]
end Go.Proofs.Ytjbbjgoofenkpaa
