/- The program's putFailed. -/
import Derived.Test.YtonfbnbkhpabbaaV1
import Derived.Test.YtonfbnbkhpabbaaP9
namespace Go.Proofs.Ytonfbnbkhpabbaa
open Go Go.RowKit Gs
set_option linter.unusedVariables false
set_option linter.unusedSimpArgs false
set_option maxRecDepth 100000
theorem dC_get : ∀ (ds : List (Int × Nat)) (j : Nat) (d : Int × Nat), ds[j]? = some d → (dC ds)[2 * j]? = some (.int .i64 d.1) ∧ (dC ds)[2 * j + 1]? = some (.int .i64 (d.2 : Int))
  | [], j, d, h => by simp at h
  | x :: xs, 0, d, h => by
    simp at h; subst h
    exact ⟨rfl, rfl⟩
  | x :: xs, j + 1, d, h => by
    obtain ⟨h1, h2⟩ := dC_get xs j d (by simpa using h)
    have e : dC (x :: xs) = .int .i64 x.1 :: .int .i64 (x.2 : Int) :: dC xs := rfl
    rw [e]
    exact ⟨by rw [show 2 * (j + 1) = 2 * j + 1 + 1 by omega]; simpa using h1, by rw [show 2 * (j + 1) + 1 = 2 * j + 1 + 1 + 1 by omega]; simpa using h2⟩
/-- The clause as far as it is written. -/
def pF (D : List Int) (j : Nat) : List Int := negs (D.take j) ++ zeros (D.length - j)
theorem pF_len (D : List Int) (j : Nat) (hj : j ≤ D.length) : (pF D j).length = D.length := by unfold pF negs zeros; simp; omega
theorem pF_zero (D : List Int) : pF D 0 = zeros D.length := by unfold pF negs; simp
theorem pF_end (D : List Int) : pF D D.length = negs D := by unfold pF negs zeros; simp
theorem pF_step {D : List Int} {j : Nat} {z : Int} (h : D[j]? = some z) : (pF D j).set j (-z) = pF D (j + 1) := by
  have hj := (List.getElem?_eq_some_iff.1 h).1
  unfold pF
  rw [negs_take h]
  have hl : (negs (D.take j)).length = j := by unfold negs; simp; omega
  rw [List.set_append_right _ _ (by omega), hl, Nat.sub_self, List.append_assoc]
  congr 1
  unfold zeros
  rw [show D.length - j = (D.length - (j + 1)) + 1 by omega, List.replicate_succ]
  rfl
theorem resC2 {W : World} {b fb k : Nat} {dv tv : Value} (h : W.heap[b]? = some (.cells (SVC fb dv tv k) 46)) : W.cell? ⟨b, 2, none⟩ = some tv := by
  simp only [World.cell?, h]; rfl
/-- What is left, with another trace. -/
def PFQ (B n sb k : Nat) (w W : World) (s : FS) (dv : Value) (ds : List (Int × Nat)) (T : List (List Int)) (e : Ending) (w' : World) : Prop := e = .returned (.tuple #[]) ∧ Below B w w' ∧ W.heap.size ≤ w'.heap.size ∧ ∃ tv' vals' E', SV B n E' w' { s with fx := [] } sb dv tv' vals' ds T k ∧ FM B n none w' { s with fx := [] }
set_option maxHeartbeats 8000000 in
theorem iPutFailed {B n E sb k : Nat} {w W : World} {s : FS} {dv tv : Value} {vals : List Value} {ds : List (Int × Nat)} {T : List (List Int)} (h : SV B n E W s sb dv tv vals ds T k) (hf : FM B n none W s) (hbl : Below B w W) (hBW : B ≤ W.heap.size) (hlD : ds.length ≤ 4001) (hlT : T.length ≤ 4001) (hL : ∀ d ∈ ds, Lit n d.1) (hn : n ≤ 2048) : Calls Try.prog 36 #[.pointer (some ⟨sb, 0, none⟩)] W (PFQ B n sb k w W s dv ds (T ++ [negs (dL ds)])) := by
  have hmk := make_ints 24 Try.underlying24 ds.length (by omega)
  obtain ⟨da, dc, hdv⟩ := own_shape h.hd
  obtain ⟨ta, tc, htv⟩ := own_shape h.ht
  have c1 := h.c1
  rw [hdv] at c1
  have hDl : (dL ds).length = ds.length := by unfold dL; simp
  have HCE : Hid (∀ wr, Below W.heap.size W wr → ∀ (j : Nat) d, ds[j]? = some d → ∃ dg, da = some ⟨dg, 0, none⟩ ∧ wr.cell? ⟨dg, j * 2, none⟩ = some (.int .i64 d.1) ∧ wr.cell? ⟨dg, j * 2 + 1, none⟩ = some (.int .i64 (d.2 : Int))) := hide (fun wr hb j d hd => by
    have ho := (h.later hb).hd
    rw [hdv] at ho
    rcases id ho.2 with ⟨hv, hn0⟩ | ⟨g, cap, cur, hv, _⟩
    · have := (List.getElem?_eq_some_iff.1 hd).1; omega
    · injection hv with e1 e2 e3
      subst e1
      obtain ⟨g1, g2⟩ := dC_get ds j d hd
      have x1 := World.ownsRow.cells ho (g := g) rfl (2 * j) _ g1
      have x2 := World.ownsRow.cells ho (g := g) rfl (2 * j + 1) _ g2
      rw [Addr.add_lit] at x1 x2
      rw [Nat.mul_comm 2 j] at x1 x2
      exact ⟨g, rfl, by simpa using x1, by simpa using x2⟩)
  have HH := hide h
  have HF := hide hf
  have HBL := hide hbl
  have HL := hide hL
  have HDV := hide hdv
  have HTV := hide htv
  have hcb : W.heap.size = W.heap.size := rfl
  clear h hf hbl hL hdv htv
  have c1a : (W.alloc (.cells (iC (zeros ds.length)) 3)).cell? ⟨sb, 1, none⟩ = some (.slice da ds.length dc) := cell_later (bal (brf W) _) c1
  go_enter Try.func36, Try.ntmps36
  go_wp2
  go_loopw [16] (fun i wr => ∃ j : Nat, j ≤ ds.length ∧ i = .int .i64 (j : Int) ∧ wr.heap[W.heap.size]? = some (.cells (iC (pF (dL ds) j)) 3) ∧ Below W.heap.size W wr) (fun i wr => ds.length - (intOf i).toNat)
  case atStart => exact ⟨0, Nat.zero_le _, rfl, by rw [pF_zero, hDl]; exact heap_new _ _, bal (brf W) _⟩
  case round =>
    obtain ⟨j, hj, rfl, hcl, hbr⟩ := hrel
    by_cases hjl : j < ds.length
    · obtain ⟨d, hd⟩ : ∃ d, ds[j]? = some d := ⟨_, List.getElem?_eq_getElem hjl⟩
      obtain ⟨dg, rfl, x1, x2⟩ := unhide HCE wr hbr j d hd
      have hdl : (dL ds)[j]? = some d.1 := by unfold dL; rw [List.getElem?_map, hd]; rfl
      have hlit := unhide HL d (List.mem_of_getElem? hd)
      obtain ⟨a1, a2, a3⟩ := id hlit
      have zl1 : -2048 ≤ d.1 := by omega
      have zl2 : d.1 ≤ 2048 := by omega
      have j1 : (j : Int) < (ds.length : Int) := by omega
      have j2 : (0 : Int) ≤ (j : Int) := by omega
      have hjz : j < (pF (dL ds) j).length := by rw [pF_len _ _ (by omega)]; omega
      obtain ⟨x, hx⟩ : ∃ x, (pF (dL ds) j)[j]? = some x := ⟨_, List.getElem?_eq_getElem hjz⟩
      have hc3 := iC_cell hcl hx
      have hf3 := iC_frz (i := j) hcl
      have HNX : Hid (∀ V : World, V = (wr.alloc (.cells #[.int .i64 d.1, .int .i64 (d.2 : Int)] 72)) → (V.setCell ⟨W.heap.size, j, none⟩ (.int .i64 (-d.1))).heap[W.heap.size]? = some (.cells (iC (pF (dL ds) (j + 1))) 3) ∧ Below W.heap.size W (V.setCell ⟨W.heap.size, j, none⟩ (.int .i64 (-d.1)))) := hide (fun V hV => by
        subst hV
        refine ⟨?_, (bal hbr _).setCell (p := ⟨W.heap.size, j, none⟩) (Nat.le_refl _) _⟩
        rw [iC_set (heap_al hcl), pF_step hdl])
      have hc3' := cell_later (bal (brf wr) (.cells #[.int .i64 d.1, .int .i64 (d.2 : Int)] 72)) hc3
      have hf3' : (wr.alloc (.cells #[.int .i64 d.1, .int .i64 (d.2 : Int)] 72)).frozen? ⟨W.heap.size, j, none⟩ = false := iC_frz (i := j) (heap_al hcl)
      obtain ⟨dl, da2⟩ := d
      clear hcl hbr hd hdl hlit a1 a2 a3 hx HCE
      simp only at *
      go_wp2
      exact ⟨⟨j + 1, by omega, by go_num, (unhide HNX _ rfl).1, (unhide HNX _ rfl).2⟩, by simp [intOf]; omega⟩
    · obtain rfl : j = ds.length := by omega
      have j1 : ¬ (ds.length : Int) < (ds.length : Int) := by omega
      rw [← hDl, pF_end] at hcl
      have hsv := (unhide HH).later hbr
      have hfm := (unhide HF).later hbr
      have c2 := hsv.c2
      obtain ⟨i0, hi, hz0, hz1, hz2⟩ := info_parts info24
      have HI := hide (And.intro hi (And.intro hz0 (And.intro hz1 hz2)))
      obtain ⟨cw, hcw⟩ : ∃ cw : Value, cw = .slice (some ⟨W.heap.size, 0, none⟩) ds.length ds.length := ⟨_, rfl⟩
      have hbB : B ≤ wr.heap.size := Nat.le_trans hBW hbr.size
      have HBR : Hid (Below B w wr) := hide ((unhide HBL).trans (hbr.mono hBW))
      have c2' := cell_later (bal (brf wr) (.cells #[cw] 24)) c2
      have f2' : (wr.alloc (.cells #[cw] 24)).frozen? ⟨sb, 2, none⟩ = false := (hsv.later (bal (brf wr) _)).frz 2
      have HOWN : Hid (World.ownsRow (wr.alloc (.cells #[cw] 24)) B 24 1 tv T.length vals) := hide (hsv.later (bal (brf wr) _)).ht
      have HBW := hide (show B ≤ (wr.alloc (.cells #[cw] 24)).heap.size by rw [World.size_alloc]; omega)
      have HFIN : Hid (∀ v' w3, World.ownsRow w3 B 24 1 v' (T.length + 1) (vals ++ [cw]) → World.grownBy (wr.alloc (.cells #[cw] 24)) w3 tv.ownBlock → (v'.ownBlock = tv.ownBlock ∨ v'.ownBlock = some (wr.alloc (.cells #[cw] 24)).heap.size) → (Below B w (w3.setCell ⟨sb, 2, none⟩ v') ∧ W.heap.size ≤ (w3.setCell ⟨sb, 2, none⟩ v').heap.size ∧ SV B n (W.heap.size + 1) (w3.setCell ⟨sb, 2, none⟩ v') { s with fx := [] } sb dv v' (vals ++ [cw]) ds (T ++ [negs (dL ds)]) k ∧ FM B n none (w3.setCell ⟨sb, 2, none⟩ v') { s with fx := [] }) ∧ (∃ y, w3.cell? ⟨sb, 2, none⟩ = some y) ∧ w3.frozen? ⟨sb, 2, none⟩ = false) := hide (fun v' w3 g1 g2 g3 => by
        have s0 := hsv.later (bal (brf wr) (.cells #[cw] 24))
        have m0 := hfm.later (bal (brf wr) (.cells #[cw] 24))
        have ka : ∀ (g : Nat) (o : Array Value) (t : TypeId), t ≠ 24 → (wr.alloc (.cells #[cw] 24)).heap[g]? = some (.cells o t) → w3.heap[g]? = some (.cells o t) := fun g o t hne hc => (g2.block g (heap_lt hc) (fun e => by
          obtain ⟨o', h2⟩ := own_ty s0.ht e.symm
          exact ty_ne hc h2 hne rfl)).trans hc
        have hs3 := ka _ _ _ (by decide) s0.hs
        have kb : ∀ (g : Nat) (o : Array Value) (t : TypeId), t ≠ 46 → w3.heap[g]? = some (.cells o t) → (w3.setCell ⟨sb, 2, none⟩ v').heap[g]? = some (.cells o t) := fun g o t hne hc => (Below.heap_setCell w3 ⟨sb, 2, none⟩ v' g (ty_ne hc hs3 hne)).trans hc
        have hsz := g2.size
        rw [World.size_alloc] at hsz
        have hbs := hbr.size
        have hcl3 : w3.heap[W.heap.size]? = some (.cells (iC (negs (dL ds))) 3) := ka _ _ _ (by decide) (heap_al hcl)
        have hap : ∀ g, Ap n s g → Ap n { s with fx := [] } g := fun g a => ⟨a.b, a.vb, a.ob, a.mb, a.tv, a.sv, a.ids⟩
        have hcap : Ap n s W.heap.size := Ap.new (unhide HF) (Nat.le_refl _)
        have hb1 : Below B w (wr.alloc (.cells #[cw] 24)) := (unhide HBR).trans ((bal (brf wr) (.cells #[cw] 24)).mono hbB)
        refine ⟨⟨(hb1.grown g2 (unhide HBW) (fun j hj => (World.ownsRow.lt s0.ht j hj).1)).setCell (p := ⟨sb, 2, none⟩) s0.lo _, by simp; omega, ⟨s0.lo, ?_, ?_, ?_, ?_, by simp; omega, hap _ s0.ps, fun g hg => hap _ (s0.pd g hg), fun g hg => hap _ ?_, fun u hu g hg => hap _ ?_⟩, ?_⟩, ?_, ?_⟩
        · rw [heap_set hs3]; rfl
        · exact ownsRow_keep s0.hd (fun g o _ hc => kb _ _ _ (by decide) (ka _ _ _ (by decide) hc))
        · rw [List.length_append]
          exact ownsRow_keep g1 (fun g o _ hc => kb _ _ _ (by decide) hc)
        · refine RI.append T [negs (dL ds)] vals [cw] (RI.kept T vals (fun u hu g o _ hc => kb _ _ _ (by decide) (ka _ _ _ (by decide) hc)) s0.hi) ⟨W.heap.size, ?_, (unhide HH).he, kb _ _ _ (by decide) hcl3, Nat.le_refl _⟩
          rw [hcw, show (negs (dL ds)).length = ds.length by unfold negs; simp [hDl]]
        · rcases g3 with e | e
          · exact s0.pt g (e ▸ hg)
          · have e2 : some (wr.alloc (.cells #[cw] 24)).heap.size = some g := e.symm.trans hg
            injection e2 with e3
            exact Ap.new m0 (by omega)
        · rcases List.mem_append.1 hu with h1 | h1
          · exact s0.pi u h1 g hg
          · simp at h1
            rw [h1, hcw] at hg
            have e2 : some W.heap.size = some g := hg
            injection e2 with e3
            rw [← e3]; exact hcap
        · exact m0.other (fun g o t hc hna => (Below.heap_setCell w3 ⟨sb, 2, none⟩ v' g (fun e => hna (e ▸ s0.ps))).trans ((g2.block g (heap_lt hc) (fun e => hna (s0.pt g e.symm))).trans hc))
        · exact ⟨_, resC2 hs3⟩
        · simp [World.frozen?, hs3])
      rw [unhide HTV] at c2 c2' HOWN HFIN
      rw [hcw] at c2' f2' HOWN HFIN HBW
      clear hcl hbr hsv hfm hi hz0 hz1 hz2 hcw
      go_wp2_with (first
        | (at_builtin; refine wpAppAt rfl _ _ 22 rfl B 24 i0 (.slice none 0 0) 1 24 Try.underlying22 (unhide HI).1 (unhide HI).2.1 (unhide HI).2.2.1 (unhide HI).2.2.2 rfl (by decide) _ _ _ rfl (unhide HOWN) ⟨wr.heap.size, 0, none⟩ 1 1 [.slice (some ⟨W.heap.size, 0, none⟩) ds.length ds.length] rfl rfl (at_slice _ _ _ rfl) (by intro u hu; simp at hu; subst hu; rfl) (by unfold maxLen; omega) (by omega) (unhide HBW) ?_; intro v' w3 k1' k2' k3'; obtain ⟨HFN, ⟨y5, hy5⟩, hf5⟩ := unhide HFIN _ w3 k1' k2' k3'; obtain ⟨a', c', hsh⟩ := own_shape k1'; subst hsh; have HFN2 := hide HFN; clear HFN k1' k2' k3')
        | go_in)
      exact bodyPost_end (v := .tuple #[]) (by simp [results, Try.results36, go_sem]) rfl ⟨rfl, (unhide HFN2).1, (unhide HFN2).2.1, _, _, _, (unhide HFN2).2.2.1, (unhide HFN2).2.2.2⟩
end Go.Proofs.Ytonfbnbkhpabbaa
namespace Go.Proofs.Ytonfbnbkhpabbaa
open Go Go.RowKit Gs
set_option linter.unusedVariables false
set_option linter.unusedSimpArgs false
set_option maxRecDepth 100000
section
variable {P : Program} {ops : Array Oper} {a0 : Act} {F : Nat → Value → Prop} {w0 : World} {n : Nat} {E : World → Prop}
/-- A plan for a region that reads, and whose last operation calls. -/
abbrev GLc (F : Nat → Value → Prop) : Array Bool → Nat → World → Value → Prop := fun l k w v => F k v
abbrev JLc (w0 : World) (n : Nat) (E : World → Prop) : Array Bool → World → Prop := fun l w => (l.getD n false = false → Below w0.heap.size w0 w) ∧ (l.getD n false = true → E w)
theorem lc_val {k : Nat} {o : Oper} (hkn : k ≠ n) (hm : ∀ l a w, PA ops (GLc F) (JLc w0 n E) a0 l a w → l.getD k false = false → l.getD n false = false) (hg : o.guard = none) (h : ∀ l a w, PA ops (GLc F) (JLc w0 n E) a0 l a w → Below w0.heap.size w0 w → (∀ e ∈ o.after, Region.binds .any e = true → l.getD e.on false = true) → ∃ x, (execOp a.eval o).run P w = .ok (.value x) w ∧ F k x) : Stp P ops (GLc F) (JLc w0 n E) a0 k o := by
  intro l a w hp hu ha
  have h1 := hm l a w hp (notDoneB hu)
  obtain ⟨x, hr, hf⟩ := h l a w hp (hp.j.1 h1) ha
  unfold opWr
  rw [if_pos (wanted_none hg)]
  refine .inl ⟨x, w, hr, x, rfl, ⟨fun _ => hp.j.1 h1, fun e => ?_⟩, hf, fun j d hd hj hG => hG⟩
  rw [set_oth hu (Ne.symm hkn), h1] at e; cases e
theorem lc_call {o : Oper} {f : FuncId} (hg : o.guard = none) (h : ∀ l a w, PA ops (GLc F) (JLc w0 n E) a0 l a w → Below w0.heap.size w0 w → (∀ e ∈ o.after, Region.binds .any e = true → l.getD e.on false = true) → ∃ args, (execOp a.eval o).run P w = .ok (.enter f args) w ∧ Calls P f args w fun e w' => ∃ x, e = .returned x ∧ E w') (hF : ∀ v, F n v) : Stp P ops (GLc F) (JLc w0 n E) a0 n o := by
  intro l a w hp hu ha
  have h1 := notDoneB hu
  obtain ⟨args, hr, hc⟩ := h l a w hp (hp.j.1 h1) ha
  unfold opWr
  rw [if_pos (wanted_none hg)]
  refine .inr (.inr ⟨f, args, w, hr, Calls.mono hc ?_⟩)
  rintro e w' ⟨x, rfl, hE⟩
  refine ⟨x, rfl, x, rfl, ⟨fun e => ?_, fun _ => hE⟩, hF _, fun j d hd hj hG => hG⟩
  rw [set_own hu] at e; cases e
end
def udF (sb b ub m : Nat) : Nat → Value → Prop
  | 0, v => v = .pointer (some ⟨sb, 0, none⟩)
  | 1, v => v = .pointer (some ⟨sb, 0, none⟩)
  | 2, v => v = .pointer (some ⟨sb, 0, none⟩)
  | 3, v => v = .pointer (some ⟨b, 0, none⟩)
  | 4, v => v = .pointer (some ⟨ub, 1, none⟩)
  | 5, v => v = .int .i64 (m : Int)
  | _, _ => True
def udOps : Array Oper := #[{ dst := some 27, op := Op.move (Operand.tmp 0), type := 41, pos := "l13_sat.go:214", after := #[], guard := none }, { dst := some 28, op := Op.nilCheck (Operand.tmp 27), type := 0, pos := "l13_sat.go:214", after := #[{ on := 0, ground := Ground.data }], guard := none }, { dst := some 29, op := Op.fieldAddr 46 (Operand.tmp 28) 0, type := 0, pos := "l13_sat.go:214", after := #[{ on := 1, ground := Ground.data }], guard := none }, { dst := some 30, op := Op.load 42 (Operand.tmp 29), type := 42, pos := "l13_sat.go:214", after := #[{ on := 2, ground := Ground.data }], guard := none }, { dst := some 31, op := Op.fieldAddr 72 (Operand.tmp 4) 1, type := 0, pos := "l13_sat.go:214", after := #[], guard := none }, { dst := some 32, op := Op.load 3 (Operand.tmp 31), type := 3, pos := "l13_sat.go:214", after := #[{ on := 4, ground := Ground.data }], guard := none }, { dst := some 33, op := Op.call { callee := Callee.value (Operand.func 47), args := #[Operand.tmp 30, Operand.tmp 32], argTypes := #[42, 3] }, type := 0, pos := "l13_sat.go:214", after := #[{ on := 3, ground := Ground.data }, { on := 5, ground := Ground.data }], guard := none }]
set_option maxHeartbeats 16000000 in
theorem udRow {sb b ub m : Nat} {wr : World} {E : World → Prop} {Q : Exit → Act → World → Prop} (HC0 : Hid (wr.cell? ⟨sb, 0, none⟩ = some (.pointer (some ⟨b, 0, none⟩)))) (HCU : Hid (wr.cell? ⟨ub, 1, none⟩ = some (.int .i64 (m : Int)))) (HCALL : Hid (∀ V, Below wr.heap.size wr V → Calls Try.prog 47 #[.pointer (some ⟨b, 0, none⟩), .int .i64 (m : Int)] V fun e w' => ∃ x, e = .returned x ∧ E w'))
    (a0 : Act) (ha0 : a0.tmps.size = 36) (e0 : a0.eval (.tmp 0) = .pointer (some ⟨sb, 0, none⟩)) (e4 : a0.eval (.tmp 4) = .pointer (some ⟨ub, 0, none⟩))
    (hQ : ∀ a V, a.tmps.size = a0.tmps.size → a.defers = a0.defers → (∀ t, t ∉ [27, 28, 29, 30, 31, 32, 33] → a.eval (.tmp t) = a0.eval (.tmp t)) → E V → Q .normal a V) :
    (Code.region 4 udOps true).wp Try.prog Q a0 wr := by
  refine wp_plan (GLc (udF sb b ub m)) (JLc wr 6 E) (by kernel_rfl) 36 ha0 (by kernel_rfl) ?hj ?hs ?hf
  case hj => exact ⟨fun _ => bdr (brf wr), fun e => absurd e (by rw [show (Array.replicate udOps.size false).getD 6 false = false by kernel_rfl]; decide)⟩
  case hs =>
    refine ⟨?_, ?_, ?_, ?_, ?_, ?_, ?_, trivial⟩
    · exact lc_val (by decide) (fun l a w hp hu => (und hp (k := 3) (j := 6) (by kernel_rfl) (und hp (k := 2) (j := 3) (by kernel_rfl) (und hp (k := 1) (j := 2) (by kernel_rfl) (und hp (k := 0) (j := 1) (by kernel_rfl) hu))))) rfl (fun l a V hp hB ha => ⟨.pointer (some ⟨sb, 0, none⟩), by
        have x0 := (ev_form a 0).trans (old hp 0 (v := .pointer (some ⟨sb, 0, none⟩)) (by kernel_rfl) e0)
        go_simp, rfl⟩)
    · exact lc_val (by decide) (fun l a w hp hu => (und hp (k := 3) (j := 6) (by kernel_rfl) (und hp (k := 2) (j := 3) (by kernel_rfl) (und hp (k := 1) (j := 2) (by kernel_rfl) hu)))) rfl (fun l a V hp hB ha => ⟨.pointer (some ⟨sb, 0, none⟩), by
        have x27 := (ev_form a 27).trans (show a.eval (.tmp 27) = .pointer (some ⟨sb, 0, none⟩) from knR hp ha 27 0 (by kernel_rfl) (by kernel_rfl))
        go_simp, rfl⟩)
    · exact lc_val (by decide) (fun l a w hp hu => (und hp (k := 3) (j := 6) (by kernel_rfl) (und hp (k := 2) (j := 3) (by kernel_rfl) hu))) rfl (fun l a V hp hB ha => ⟨.pointer (some ⟨sb, 0, none⟩), by
        have x28 := (ev_form a 28).trans (show a.eval (.tmp 28) = .pointer (some ⟨sb, 0, none⟩) from knR hp ha 28 1 (by kernel_rfl) (by kernel_rfl))
        go_simp, rfl⟩)
    · exact lc_val (by decide) (fun l a w hp hu => (und hp (k := 3) (j := 6) (by kernel_rfl) hu)) rfl (fun l a V hp hB ha => ⟨.pointer (some ⟨b, 0, none⟩), by
        have x29 := (ev_form a 29).trans (show a.eval (.tmp 29) = .pointer (some ⟨sb, 0, none⟩) from knR hp ha 29 2 (by kernel_rfl) (by kernel_rfl))
        have mq := cell_later hB (unhide HC0)
        go_simp, rfl⟩)
    · exact lc_val (by decide) (fun l a w hp hu => (und hp (k := 5) (j := 6) (by kernel_rfl) (und hp (k := 4) (j := 5) (by kernel_rfl) hu))) rfl (fun l a V hp hB ha => ⟨.pointer (some ⟨ub, 1, none⟩), by
        have x4 := (ev_form a 4).trans (old hp 4 (v := .pointer (some ⟨ub, 0, none⟩)) (by kernel_rfl) e4)
        go_simp, rfl⟩)
    · exact lc_val (by decide) (fun l a w hp hu => (und hp (k := 5) (j := 6) (by kernel_rfl) hu)) rfl (fun l a V hp hB ha => ⟨.int .i64 (m : Int), by
        have x31 := (ev_form a 31).trans (show a.eval (.tmp 31) = .pointer (some ⟨ub, 1, none⟩) from knR hp ha 31 4 (by kernel_rfl) (by kernel_rfl))
        have mq := cell_later hB (unhide HCU)
        go_simp, rfl⟩)
    · refine lc_call (f := 47) rfl (fun l a V hp hB ha => ⟨#[.pointer (some ⟨b, 0, none⟩), .int .i64 (m : Int)], ?_, unhide HCALL V hB⟩) (fun v => trivial)
      have x30 := (ev_form a 30).trans (show a.eval (.tmp 30) = .pointer (some ⟨b, 0, none⟩) from knR hp ha 30 3 (by kernel_rfl) (by kernel_rfl))
      have x32 := (ev_form a 32).trans (show a.eval (.tmp 32) = .int .i64 (m : Int) from knR hp ha 32 5 (by kernel_rfl) (by kernel_rfl))
      go_simp
  case hf =>
    intro l a V hp hall
    exact hQ a V hp.nt hp.df (fun t ht => hp.keep t (dstIn (by kernel_rfl) ht)) (hp.j.2 (hall 6 (by decide)))
theorem dC_snoc (ds : List (Int × Nat)) (d : Int × Nat) : dC (ds ++ [d]) = dC ds ++ [.int .i64 d.1, .int .i64 (d.2 : Int)] := by unfold dC; simp
theorem dC_len (ds : List (Int × Nat)) : (dC ds).length = ds.length * 2 := by
  induction ds with
  | nil => rfl
  | cons d ds ih => have e : dC (d :: ds) = .int .i64 d.1 :: .int .i64 (d.2 : Int) :: dC ds := rfl; rw [e]; simp [ih]; omega
theorem own_take2 {W : World} {B e g n c : Nat} {xs ys : List Value} {m : Nat} (h : W.ownsRow B e 2 (.slice (some ⟨g, 0, none⟩) n c) n (xs ++ ys)) (hm : m ≤ n) (hx : xs.length = m * 2) : W.ownsRow B e 2 (.slice (some ⟨g, 0, none⟩) m c) m xs := by
  obtain ⟨h1, ⟨h2, _⟩ | ⟨g', cap, cur, hv, hb, hg, hlc, hcm, hcs, htk⟩⟩ := h
  · cases h2
  · injection hv with e1 e2 e3
    injection e1 with e4
    injection e4 with e5 _
    subst e5 e3
    refine ⟨hx, .inr ⟨g, c, cur, rfl, hb, hg, by omega, hcm, hcs, ?_⟩⟩
    have : cur.toList.take (m * 2) = (cur.toList.take (n * 2)).take (m * 2) := by rw [List.take_take]; congr 1; omega
    rw [this, htk, ← hx, List.take_left]
/-- What undecide leaves. -/
def UDQ (B n sb k : Nat) (w W : World) (s : FS) (ds : List (Int × Nat)) (T : List (List Int)) (l : Int) (m : Nat) (e : Ending) (w' : World) : Prop := e = .returned (.int .i64 l) ∧ Below B w w' ∧ W.heap.size ≤ w'.heap.size ∧ ∃ dv' tv' vals' E' v', SV B n E' w' { s with vs := wipe s.vs (s.t.drop m), t := s.t.take m, tv := v', fol := m, fx := [] } sb dv' tv' vals' ds T k ∧ FM B n none w' { s with vs := wipe s.vs (s.t.drop m), t := s.t.take m, tv := v', fol := m, fx := [] }
set_option maxHeartbeats 8000000 in
theorem iUndecide {B n E sb k : Nat} {w W : World} {s : FS} {dv tv : Value} {vals : List Value} {ds : List (Int × Nat)} {l : Int} {m : Nat} {T : List (List Int)} (h : SV B n E W s sb dv tv vals (ds ++ [(l, m)]) T k) (hf : FM B n none W s) (hbl : Below B w W) (hBW : B ≤ W.heap.size) (hlD : ds.length ≤ 4001) (ht : TrOK n s.t) (hm : m ≤ s.t.length) (hn : n ≤ 2048) : Calls Try.prog 37 #[.pointer (some ⟨sb, 0, none⟩)] W (UDQ B n sb k w W s ds T l m) := by
  have hdl : (ds ++ [(l, m)]).length = ds.length + 1 := by simp
  obtain ⟨dg, dc, hdv, hlc⟩ : ∃ dg dc, dv = .slice (some ⟨dg, 0, none⟩) (ds.length + 1) dc ∧ ds.length + 1 ≤ dc := by
    rcases id h.hd.2 with ⟨hv, hn0⟩ | ⟨g, cap, cur, hv, _, _, hlc, _⟩
    · rw [hdl] at hn0; omega
    · rw [hdl] at hv hlc
      exact ⟨g, cap, hv, hlc⟩
  have c1 := h.c1
  rw [hdv] at c1
  have hget := dC_get (ds ++ [(l, m)]) ds.length (l, m) (by simp)
  have ho := h.hd
  rw [hdv, hdl] at ho
  have x1 := World.ownsRow.cells ho (g := dg) rfl (2 * ds.length) _ hget.1
  have x2 := World.ownsRow.cells ho (g := dg) rfl (2 * ds.length + 1) _ hget.2
  rw [Addr.add_lit, Nat.mul_comm] at x1 x2
  simp only [Nat.zero_add] at x1 x2
  obtain ⟨V0, hV0⟩ : ∃ V0, V0 = W.alloc (.cells #[.int .i64 l, .int .i64 (m : Int)] 72) := ⟨_, rfl⟩
  have hb0 : Below W.heap.size W V0 := by rw [hV0]; exact bal (brf W) _
  have h0 := h.later hb0
  have hf0 := hf.later hb0
  have hsz0 : V0.heap.size = W.heap.size + 1 := by rw [hV0]; simp
  obtain ⟨V2, hV2⟩ : ∃ V2, V2 = V0.setCell ⟨sb, 1, none⟩ (.slice (some ⟨dg, 0, none⟩) ds.length dc) := ⟨_, rfl⟩
  have hap : ∀ g, Ap n s g → Ap n { s with fx := [] } g := fun g a => ⟨a.b, a.vb, a.ob, a.mb, a.tv, a.sv, a.ids⟩
  have kb : ∀ (g : Nat) (o : Array Value) (t : TypeId), t ≠ 46 → V0.heap[g]? = some (.cells o t) → V2.heap[g]? = some (.cells o t) := fun g o t hne hc => by rw [hV2]; exact (Below.heap_setCell V0 ⟨sb, 1, none⟩ _ g (ty_ne hc h0.hs hne)).trans hc
  have hsv1 : SV B n E V2 { s with fx := [] } sb (.slice (some ⟨dg, 0, none⟩) ds.length dc) tv vals ds T k := by
    refine ⟨h0.lo, by rw [hV2, heap_set h0.hs]; rfl, ?_, ownsRow_keep h0.ht (fun g o _ hc => kb _ _ _ (by decide) hc), RI.kept T vals (fun u hu g o _ hc => kb _ _ _ (by decide) hc) h0.hi, by rw [hV2]; simpa using h0.he, hap _ h0.ps, fun g hg => hap _ (h0.pd g ?_), fun g hg => hap _ (h0.pt g hg), fun u hu g hg => hap _ (h0.pi u hu g hg)⟩
    · have ho0 := h0.hd
      rw [hdv, hdl, dC_snoc] at ho0
      exact own_take2 (ownsRow_keep ho0 (fun g o _ hc => kb _ _ _ (by decide) hc)) (by omega) (dC_len ds)
    · rw [hdv]; exact hg
  have hfm1 : FM B n none V2 { s with fx := [] } := by rw [hV2]; exact hf0.mine h0.ps 1 _
  have hbl1 : Below B w V2 := by rw [hV2]; exact (hbl.trans (hb0.mono hBW)).setCell (p := ⟨sb, 1, none⟩) h.lo _
  have hsz2 : V2.heap.size = W.heap.size + 1 := by rw [hV2]; simpa using hsz0
  have hbx : V2.heap[W.heap.size]? = some (.cells #[.int .i64 l, .int .i64 (m : Int)] 72) := kb _ _ _ (by decide) (by rw [hV0]; exact heap_new _ _)
  have hbap : Ap n { s with fx := [] } W.heap.size := hap _ (Ap.new hf (Nat.le_refl _))
  have HC0 : Hid (V2.cell? ⟨sb, 0, none⟩ = some (.pointer (some ⟨s.b, 0, none⟩))) := hide hsv1.c0
  have HCU : Hid (V2.cell? ⟨W.heap.size, 1, none⟩ = some (.int .i64 (m : Int))) := hide (by simp only [World.cell?, hbx]; rfl)
  have HCALL : Hid (∀ V, Below V2.heap.size V2 V → Calls Try.prog 47 #[.pointer (some ⟨s.b, 0, none⟩), .int .i64 (m : Int)] V fun e w' => ∃ x, e = .returned x ∧ (UDQ B n sb k w W s ds T l m (.returned (.int .i64 l)) w' ∧ w'.cell? ⟨W.heap.size, 0, none⟩ = some (.int .i64 l))) := hide (fun V hV => by
    have hszV := hV.size
    have hfV := hfm1.later hV
    refine (iTakeBackA hfV ((brf V).mono (by omega)) ht m hm hn).mono ?_
    rintro e w' ⟨rfl, hb', v', hf', hka⟩
    have hxV : V.heap[W.heap.size]? = some (.cells #[.int .i64 l, .int .i64 (m : Int)] 72) := (hV.block _ (heap_lt hbx)).trans hbx
    have hkx := hka _ _ _ hxV hbap
    have hsz : V.heap.size ≤ w'.heap.size := hb'.size
    exact ⟨_, rfl, ⟨rfl, (hbl1.trans (hV.mono (by omega))).trans hb', by omega, _, _, _, _, v', (hsv1.later hV).call hka rfl hsz, hf'⟩, by simp only [World.cell?, hkx.1]; rfl⟩)
  have p1 : (0 : Int) ≤ (ds.length : Int) := by omega
  have p2 : (ds.length : Int) < ((ds.length + 1 : Nat) : Int) := by omega
  have p3 : ((ds.length + 1 : Nat) : Int) - 1 = (ds.length : Int) := by omega
  have f1 := h.frz 1
  have c1' := cell_later (bal (brf W) (.cells #[.int .i64 l, .int .i64 (m : Int)] 72)) c1
  have f1' : (W.alloc (.cells #[.int .i64 l, .int .i64 (m : Int)] 72)).frozen? ⟨sb, 1, none⟩ = false := (h.later (bal (brf W) _)).frz 1
  have p4 : (ds.length : Int) ≤ (dc : Int) := by omega
  rw [hV0] at hV2
  clear h hf hbl ht hm hdl hget ho hsv1 hfm1 hbl1 hsz0 hsz2 hb0 h0 hf0 hbx hbap hap kb hV0
  go_enter Try.func37, Try.ntmps37
  go_wp2
  rw [← hV2]
  refine udRow (E := fun w' => UDQ B n sb k w W s ds T l m (.returned (.int .i64 l)) w' ∧ w'.cell? ⟨W.heap.size, 0, none⟩ = some (.int .i64 l)) HC0 HCU HCALL _ rfl rfl rfl ?_
  intro a V hnt hdf hkeep hE
  obtain ⟨us, rfl, hus⟩ := putAll_of [27, 28, 29, 30, 31, 32, 33] hnt hdf hkeep
  have HQ := hide hE.1
  have hcx := hE.2
  clear hnt hdf hkeep hus hE HC0 HCU HCALL hV2
  simp only [putAll, List.foldl, Act.put, List.setIfInBounds_toArray, List.set_cons_zero, List.set_cons_succ]
  generalize us 27 = z27 at *
  generalize us 28 = z28 at *
  generalize us 29 = z29 at *
  generalize us 30 = z30 at *
  generalize us 31 = z31 at *
  generalize us 32 = z32 at *
  generalize us 33 = z33 at *
  go_wp2
  exact bodyPost_ret (v := .int .i64 l) (by simp [results, Try.results37, go_sem]) rfl (unhide HQ)

end Go.Proofs.Ytonfbnbkhpabbaa
