/- The specification's AigRun: the three regions that append to a row. -/
import Derived.Test.YtaamibonpmijaaaGreatQg
import Derived.Test.YtaamibonpmijaaaGreatQa
namespace Go.Proofs.YtaamibonpmijaaaGreat
open Go Go.RowKit Gs
set_option linter.unusedVariables false
set_option linter.unusedSimpArgs false
set_option maxRecDepth 100000
def runOutsF (q pb ab ao al ac k : Nat) (tv iv : Value) (z : Int) (A : Bool) : Nat → Value → Prop
  | 0, v => v = .pointer (some ⟨q, 0, none⟩)
  | 1, v => v = tv
  | 2, v => v = iv
  | 3, v => v = .pointer (some ⟨pb, 4, none⟩)
  | 4, v => v = .slice (some ⟨ab, ao, none⟩) al ac
  | 5, v => v = .int .i64 (k : Int)
  | 6, v => v = .pointer (some ⟨ab, ao + k * 2, none⟩)
  | 7, v => v = .pointer (some ⟨ab, ao + k * 2 + 1, none⟩)
  | 8, v => v = .int .i64 z
  | 9, v => v = .int .i64 (b2i A)
  | 10, v => v = .string (txt1 A)
  | 13, v => v = .pointer (some ⟨q, 0, none⟩)
  | _, _ => True
def runOutsOps : Array Oper := #[{ dst := some 145, op := Op.fieldAddr 75 (Operand.tmp 17) 0, type := 0, pos := "l10_aig.go:141", after := #[], guard := none }, { dst := some 146, op := Op.load 22 (Operand.tmp 145), type := 22, pos := "l10_aig.go:141", after := #[{ on := 0, ground := Ground.data }], guard := none }, { dst := some 147, op := Op.move (Operand.tmp 14), type := 67, pos := "l10_aig.go:141", after := #[], guard := none }, { dst := some 148, op := Op.fieldAddr 38 (Operand.tmp 2) 4, type := 0, pos := "l10_aig.go:141", after := #[], guard := none }, { dst := some 149, op := Op.load 36 (Operand.tmp 148), type := 36, pos := "l10_aig.go:141", after := #[{ on := 3, ground := Ground.data }], guard := none }, { dst := some 150, op := Op.move (Operand.tmp 18), type := 3, pos := "l10_aig.go:141", after := #[], guard := none }, { dst := some 151, op := Op.indexAddr 36 (Operand.tmp 149) (Operand.tmp 150), type := 0, pos := "l10_aig.go:141", after := #[{ on := 4, ground := Ground.data }, { on := 5, ground := Ground.data }], guard := none }, { dst := some 152, op := Op.fieldAddr 78 (Operand.tmp 151) 1, type := 0, pos := "l10_aig.go:141", after := #[{ on := 6, ground := Ground.data }], guard := none }, { dst := some 153, op := Op.load 3 (Operand.tmp 152), type := 3, pos := "l10_aig.go:141", after := #[{ on := 7, ground := Ground.data }], guard := none }, { dst := some 154, op := Op.call { callee := Callee.value (Operand.func 26), args := #[Operand.tmp 147, Operand.tmp 153], argTypes := #[67, 3] }, type := 3, pos := "l10_aig.go:141", after := #[{ on := 2, ground := Ground.data }, { on := 8, ground := Ground.data }], guard := none }, { dst := some 155, op := Op.call { callee := Callee.value (Operand.func 27), args := #[Operand.tmp 154], argTypes := #[3] }, type := 9, pos := "l10_aig.go:141", after := #[{ on := 9, ground := Ground.data }, { on := 9, ground := Ground.chain }], guard := none }, { dst := some 156, op := Op.buildSlice 22 1 #[(0, Operand.tmp 155)], type := 22, pos := "l10_aig.go:141", after := #[{ on := 10, ground := Ground.data }], guard := none }, { dst := some 157, op := Op.call { callee := Callee.builtin Builtin.append, args := #[Operand.tmp 146, Operand.tmp 156], argTypes := #[22, 22] }, type := 22, pos := "l10_aig.go:141", after := #[{ on := 1, ground := Ground.data }, { on := 11, ground := Ground.data }, { on := 10, ground := Ground.chain }], guard := none }, { dst := some 158, op := Op.fieldAddr 75 (Operand.tmp 17) 0, type := 0, pos := "l10_aig.go:141", after := #[{ on := 0, ground := Ground.phase }, { on := 1, ground := Ground.phase }, { on := 2, ground := Ground.phase }, { on := 3, ground := Ground.phase }, { on := 4, ground := Ground.phase }, { on := 5, ground := Ground.phase }, { on := 6, ground := Ground.phase }, { on := 7, ground := Ground.phase }, { on := 8, ground := Ground.phase }, { on := 9, ground := Ground.phase }, { on := 10, ground := Ground.phase }, { on := 11, ground := Ground.phase }, { on := 12, ground := Ground.phase }], guard := none }, { dst := none, op := Op.store 22 (Operand.tmp 158) (Operand.tmp 157), type := 0, pos := "l10_aig.go:141", after := #[{ on := 13, ground := Ground.data }, { on := 12, ground := Ground.data }, { on := 12, ground := Ground.chain }, { on := 0, ground := Ground.phase }, { on := 1, ground := Ground.phase }, { on := 2, ground := Ground.phase }, { on := 3, ground := Ground.phase }, { on := 4, ground := Ground.phase }, { on := 5, ground := Ground.phase }, { on := 6, ground := Ground.phase }, { on := 7, ground := Ground.phase }, { on := 8, ground := Ground.phase }, { on := 9, ground := Ground.phase }, { on := 10, ground := Ground.phase }, { on := 11, ground := Ground.phase }, { on := 12, ground := Ground.phase }], guard := none }]
set_option maxHeartbeats 16000000 in
theorem runOuts {q pb ab ao al ac k N : Nat} {tv iv : Value} {z : Int} {A : Bool} {acc : List ByteArray} {wr : World} {Q : Exit → Act → World → Prop} (HTV : Hid (OT N wr tv acc)) (htv : ∃ a l c, tv = .slice a l c) (hiv : ∃ a l c, iv = .slice a l c) (HAL : Hid (acc.length ≤ 1048576)) (HSZ : Hid (N ≤ wr.heap.size)) (HQ4 : Hid (q < N)) (HQC : Hid (wr.cell? ⟨q, 0, none⟩ = some tv)) (HQF : Hid (wr.frozen? ⟨q, 0, none⟩ = false)) (hkl : k < al) (hk3 : al ≤ 1048576) (HPC : Hid (wr.cell? ⟨pb, 4, none⟩ = some (.slice (some ⟨ab, ao, none⟩) al ac))) (HZ : Hid (wr.cell? ⟨ab, ao + k * 2 + 1, none⟩ = some (.int .i64 z))) (HCO : Hid (∀ V, Below wr.heap.size wr V → Calls Tryz.prog 26 #[iv, .int .i64 z] V fun e w' => e = .returned (.int .i64 (b2i A)) ∧ Below V.heap.size V w'))
    (a0 : Act) (ha0 : a0.tmps.size = 201) (e17 : a0.eval (.tmp 17) = .pointer (some ⟨q, 0, none⟩)) (e14 : a0.eval (.tmp 14) = iv) (e2 : a0.eval (.tmp 2) = .pointer (some ⟨pb, 0, none⟩)) (e18 : a0.eval (.tmp 18) = .int .i64 (k : Int))
    (hQ : ∀ a V V' v, a.tmps.size = a0.tmps.size → a.defers = a0.defers → (∀ t, t ∉ [145, 146, 147, 148, 149, 150, 151, 152, 153, 154, 155, 156, 157, 158] → a.eval (.tmp t) = a0.eval (.tmp t)) → OT N V' v (acc ++ [txt1 A]) → Below N wr V' → V = V'.setCell ⟨q, 0, none⟩ v → Q .normal a V) :
    (Code.region 39 runOutsOps true).wp Tryz.prog Q a0 wr := by
  obtain ⟨i0, hi, hz0, hz1, hz2⟩ := info_parts info9
  have HI := hide (And.intro hi (And.intro hz0 (And.intro hz1 hz2)))
  have HCT : Hid (∀ V, Calls Tryz.prog 27 #[.int .i64 (b2i A)] V fun e w' => e = .returned (.string (txt1 A)) ∧ Below V.heap.size V w') := hide (fun V => by
    refine (sText A V).mono ?_
    rintro e w' ⟨rfl, rfl⟩
    exact ⟨rfl, brf _⟩)
  obtain ⟨ta, tl, tc, htv⟩ := htv
  have j1 : (0 : Int) ≤ (k : Int) := by omega
  have j2 : (k : Int) < (al : Int) := by omega
  clear hi hz0 hz1 hz2
  refine wp_plan (GA (runOutsF q pb ab ao al ac k tv iv z A) (F2S wr 11 (txt1 A)) 12 14 (fun v V => OT N V v (acc ++ [txt1 A]) ∧ ∃ V0, Below wr.heap.size wr V0 ∧ V0.grownBy V tv.ownBlock)) (JA wr 12 14 (fun v V => OT N V v (acc ++ [txt1 A]) ∧ ∃ V0, Below wr.heap.size wr V0 ∧ V0.grownBy V tv.ownBlock) (fun V' => ∃ V v, (fun v V => OT N V v (acc ++ [txt1 A]) ∧ ∃ V0, Below wr.heap.size wr V0 ∧ V0.grownBy V tv.ownBlock) v V ∧ V' = V.setCell ⟨q, 0, none⟩ v)) (by kernel_rfl) 201 ha0 (by kernel_rfl) ?hj ?hs ?hf
  case hj => exact JA.start (bdr (brf wr))
  case hs =>
    refine ⟨?_, ?_, ?_, ?_, ?_, ?_, ?_, ?_, ?_, ?_, ?_, ?_, ?_, ?_, ?_, trivial⟩
    · exact sa_val (by decide) (by decide) (fun l a w hp hu => ⟨(und hp (k := 1) (j := 12) (by kernel_rfl) (und hp (k := 0) (j := 1) (by kernel_rfl) hu)), (und hp (k := 0) (j := 14) (by kernel_rfl) hu)⟩) rfl (fun l a V hp h1 hB ha => ⟨.pointer (some ⟨q, 0, none⟩), by
        have x17 := (ev_form a 17).trans (old hp 17 (v := .pointer (some ⟨q, 0, none⟩)) (by kernel_rfl) e17)
        go_simp, rfl, fun e => absurd e (by decide)⟩)
    · exact sa_val (by decide) (by decide) (fun l a w hp hu => ⟨(und hp (k := 1) (j := 12) (by kernel_rfl) hu), (und hp (k := 1) (j := 14) (by kernel_rfl) hu)⟩) rfl (fun l a V hp h1 hB ha => ⟨tv, by
        have x145 := (ev_form a 145).trans (show a.eval (.tmp 145) = .pointer (some ⟨q, 0, none⟩) from (kn hp ha 145 0 (by kernel_rfl) (by kernel_rfl)).1)
        have mq := cell_later hB (unhide HQC)
        go_simp, rfl, fun e => absurd e (by decide)⟩)
    · exact sa_val (by decide) (by decide) (fun l a w hp hu => ⟨(und hp (k := 10) (j := 12) (by kernel_rfl) (und hp (k := 9) (j := 10) (by kernel_rfl) (und hp (k := 2) (j := 9) (by kernel_rfl) hu))), (und hp (k := 2) (j := 14) (by kernel_rfl) hu)⟩) rfl (fun l a V hp h1 hB ha => ⟨iv, by
        have x14 := (ev_form a 14).trans (old hp 14 (v := iv) (by kernel_rfl) e14)
        go_simp, rfl, fun e => absurd e (by decide)⟩)
    · exact sa_val (by decide) (by decide) (fun l a w hp hu => ⟨(und hp (k := 10) (j := 12) (by kernel_rfl) (und hp (k := 9) (j := 10) (by kernel_rfl) (und hp (k := 8) (j := 9) (by kernel_rfl) (und hp (k := 7) (j := 8) (by kernel_rfl) (und hp (k := 6) (j := 7) (by kernel_rfl) (und hp (k := 4) (j := 6) (by kernel_rfl) (und hp (k := 3) (j := 4) (by kernel_rfl) hu))))))), (und hp (k := 3) (j := 14) (by kernel_rfl) hu)⟩) rfl (fun l a V hp h1 hB ha => ⟨.pointer (some ⟨pb, 4, none⟩), by
        have x2 := (ev_form a 2).trans (old hp 2 (v := .pointer (some ⟨pb, 0, none⟩)) (by kernel_rfl) e2)
        go_simp, rfl, fun e => absurd e (by decide)⟩)
    · exact sa_val (by decide) (by decide) (fun l a w hp hu => ⟨(und hp (k := 10) (j := 12) (by kernel_rfl) (und hp (k := 9) (j := 10) (by kernel_rfl) (und hp (k := 8) (j := 9) (by kernel_rfl) (und hp (k := 7) (j := 8) (by kernel_rfl) (und hp (k := 6) (j := 7) (by kernel_rfl) (und hp (k := 4) (j := 6) (by kernel_rfl) hu)))))), (und hp (k := 4) (j := 14) (by kernel_rfl) hu)⟩) rfl (fun l a V hp h1 hB ha => ⟨.slice (some ⟨ab, ao, none⟩) al ac, by
        have x148 := (ev_form a 148).trans (show a.eval (.tmp 148) = .pointer (some ⟨pb, 4, none⟩) from (kn hp ha 148 3 (by kernel_rfl) (by kernel_rfl)).1)
        have mp := cell_later hB (unhide HPC)
        go_simp, rfl, fun e => absurd e (by decide)⟩)
    · exact sa_val (by decide) (by decide) (fun l a w hp hu => ⟨(und hp (k := 10) (j := 12) (by kernel_rfl) (und hp (k := 9) (j := 10) (by kernel_rfl) (und hp (k := 8) (j := 9) (by kernel_rfl) (und hp (k := 7) (j := 8) (by kernel_rfl) (und hp (k := 6) (j := 7) (by kernel_rfl) (und hp (k := 5) (j := 6) (by kernel_rfl) hu)))))), (und hp (k := 5) (j := 14) (by kernel_rfl) hu)⟩) rfl (fun l a V hp h1 hB ha => ⟨.int .i64 (k : Int), by
        have x18 := (ev_form a 18).trans (old hp 18 (v := .int .i64 (k : Int)) (by kernel_rfl) e18)
        go_simp, rfl, fun e => absurd e (by decide)⟩)
    · exact sa_val (by decide) (by decide) (fun l a w hp hu => ⟨(und hp (k := 10) (j := 12) (by kernel_rfl) (und hp (k := 9) (j := 10) (by kernel_rfl) (und hp (k := 8) (j := 9) (by kernel_rfl) (und hp (k := 7) (j := 8) (by kernel_rfl) (und hp (k := 6) (j := 7) (by kernel_rfl) hu))))), (und hp (k := 6) (j := 14) (by kernel_rfl) hu)⟩) rfl (fun l a V hp h1 hB ha => ⟨.pointer (some ⟨ab, ao + k * 2, none⟩), by
        have x149 := (ev_form a 149).trans (show a.eval (.tmp 149) = .slice (some ⟨ab, ao, none⟩) al ac from (kn hp ha 149 4 (by kernel_rfl) (by kernel_rfl)).1)
        have x150 := (ev_form a 150).trans (show a.eval (.tmp 150) = .int .i64 (k : Int) from (kn hp ha 150 5 (by kernel_rfl) (by kernel_rfl)).1)
        go_simp, rfl, fun e => absurd e (by decide)⟩)
    · exact sa_val (by decide) (by decide) (fun l a w hp hu => ⟨(und hp (k := 10) (j := 12) (by kernel_rfl) (und hp (k := 9) (j := 10) (by kernel_rfl) (und hp (k := 8) (j := 9) (by kernel_rfl) (und hp (k := 7) (j := 8) (by kernel_rfl) hu)))), (und hp (k := 7) (j := 14) (by kernel_rfl) hu)⟩) rfl (fun l a V hp h1 hB ha => ⟨.pointer (some ⟨ab, ao + k * 2 + 1, none⟩), by
        have x151 := (ev_form a 151).trans (show a.eval (.tmp 151) = .pointer (some ⟨ab, ao + k * 2, none⟩) from (kn hp ha 151 6 (by kernel_rfl) (by kernel_rfl)).1)
        go_simp, rfl, fun e => absurd e (by decide)⟩)
    · exact sa_val (by decide) (by decide) (fun l a w hp hu => ⟨(und hp (k := 10) (j := 12) (by kernel_rfl) (und hp (k := 9) (j := 10) (by kernel_rfl) (und hp (k := 8) (j := 9) (by kernel_rfl) hu))), (und hp (k := 8) (j := 14) (by kernel_rfl) hu)⟩) rfl (fun l a V hp h1 hB ha => ⟨.int .i64 z, by
        have x152 := (ev_form a 152).trans (show a.eval (.tmp 152) = .pointer (some ⟨ab, ao + k * 2 + 1, none⟩) from (kn hp ha 152 7 (by kernel_rfl) (by kernel_rfl)).1)
        have mz := cell_later hB (unhide HZ)
        go_simp, rfl, fun e => absurd e (by decide)⟩)
    · exact sa_call (f := 26) (F2S.lasts _ _ _) (by decide) (by decide) (fun l a w hp hu => ⟨(und hp (k := 10) (j := 12) (by kernel_rfl) (und hp (k := 9) (j := 10) (by kernel_rfl) hu)), (und hp (k := 9) (j := 14) (by kernel_rfl) hu)⟩) rfl (fun l a V hp h1 hB ha => ⟨#[iv, .int .i64 z], by
        have x147 := (ev_form a 147).trans (show a.eval (.tmp 147) = iv from (kn hp ha 147 2 (by kernel_rfl) (by kernel_rfl)).1)
        have x153 := (ev_form a 153).trans (show a.eval (.tmp 153) = .int .i64 z from (kn hp ha 153 8 (by kernel_rfl) (by kernel_rfl)).1)
        go_simp, (unhide HCO V hB).mono (by rintro e V1 ⟨rfl, hb⟩; exact ⟨_, rfl, rfl, fun e => absurd e (by decide), hb⟩)⟩)
    · exact sa_call (f := 27) (F2S.lasts _ _ _) (by decide) (by decide) (fun l a w hp hu => ⟨(und hp (k := 10) (j := 12) (by kernel_rfl) hu), (und hp (k := 10) (j := 14) (by kernel_rfl) hu)⟩) rfl (fun l a V hp h1 hB ha => ⟨#[.int .i64 (b2i A)], by
        have x154 := (ev_form a 154).trans (show a.eval (.tmp 154) = .int .i64 (b2i A) from (kn hp ha 154 9 (by kernel_rfl) (by kernel_rfl)).1)
        go_simp, (unhide HCT V).mono (by rintro e V1 ⟨rfl, hb⟩; exact ⟨_, rfl, rfl, fun e => absurd e (by decide), hb⟩)⟩)
    · exact sa_new (F2S.lasts _ _ _) (by decide) (by decide) (fun l a w hp hu => ⟨(und hp (k := 11) (j := 12) (by kernel_rfl) hu), (und hp (k := 11) (j := 14) (by kernel_rfl) hu)⟩) rfl (fun l a V hp h1 hB ha => ⟨.slice (some ⟨V.heap.size, 0, none⟩) 1 1, .cells #[.string (txt1 A)] 9, by
        have x155 := (ev_form a 155).trans (show a.eval (.tmp 155) = .string (txt1 A) from (kn hp ha 155 10 (by kernel_rfl) (by kernel_rfl)).1)
        go_simp, trivial, fun _ => ⟨V.heap.size, rfl, hB.size, by rw [World.cell?_alloc_new]; rfl⟩⟩)
    · refine sa_app (by decide) (fun l a w hp hu => (und hp (k := 12) (j := 14) (by kernel_rfl) hu)) rfl (fun l a V hp h1 hB ha => ?_)
      have hv1 : a.eval (.tmp 146) = tv := (kn hp ha 146 1 (by kernel_rfl) (by kernel_rfl)).1
      obtain ⟨M1, hv2, hM, hMc⟩ := (kn hp ha 156 11 (by kernel_rfl) (by kernel_rfl)).2.1 h1 rfl
      have hot := (unhide HTV).later hB
      obtain ⟨v', w', hr, h2, h3, _⟩ := run_append_own (P := Tryz.prog) V N 22 22 9 i0 (.string ByteArray.empty) 1 16 Tryz.underlying22 (unhide HI).1 (unhide HI).2.1 (unhide HI).2.2.1 (unhide HI).2.2.2 rfl (by decide) tv acc.length _ hot.1 ⟨M1, 0, none⟩ 1 1 [.string (txt1 A)] rfl (by
        intro j u hj
        match j, hj with
        | 0, hj => simp at hj; subst hj; simpa [Addr.add] using hMc
        | j + 1, hj => simp at hj) (oneT _) (by have := unhide HAL; unfold maxLen; omega) (by have := unhide HAL; omega) (by have h1 := hB.size; have h2 := unhide HSZ; omega)
      refine ⟨v', w', ?_, ⟨OT.step h2 hot.2 (txt1_size A), V, hB, h3⟩, trivial⟩
      unfold execOp
      simp only [resolve, invoke, builtin, Sem.run_bind, Sem.run_pure, Result.andThen_ok, List.map_toArray, List.map_cons, List.map_nil, hv1, hv2, hr]
    · exact sa_float (by decide) (by decide) (fun l a w hp hu => (und hp (k := 13) (j := 14) (by kernel_rfl) hu)) rfl (fun l a V hp ha => ⟨.pointer (some ⟨q, 0, none⟩), by
        have x17 := (ev_form a 17).trans (old hp 17 (v := .pointer (some ⟨q, 0, none⟩)) (by kernel_rfl) e17)
        go_simp, rfl, fun e => absurd e (by decide)⟩)
    · refine sa_last (t := 157) (by decide) rfl rfl (by kernel_rfl) (fun l a V hp hA ha => ?_) trivial
      have x158 := (ev_form a 158).trans (show a.eval (.tmp 158) = .pointer (some ⟨q, 0, none⟩) from (kn hp ha 158 13 (by kernel_rfl) (by kernel_rfl)).1)
      have x157 := ev_form a 157
      obtain ⟨h1, V0, hV0, hgr⟩ := id hA
      have hlow := below_grown (hV0.mono (unhide HSZ)) hgr (by have := hV0.size; have := unhide HSZ; omega) (unhide HTV).row
      have m1 := hlow.cell (p := ⟨q, 0, none⟩) (unhide HQ4)
      rw [unhide HQC] at m1
      have m2 := hlow.frozen (p := ⟨q, 0, none⟩) (unhide HQ4)
      rw [unhide HQF] at m2
      generalize a.eval (.tmp 157) = tv' at *
      obtain ⟨sa, sl, sc, rfl⟩ := h1.shape
      exact ⟨V.setCell ⟨q, 0, none⟩ (.slice sa sl sc), by clear hA h1 hgr hlow; go_simp, ⟨V, _, hA, rfl⟩⟩
  case hf =>
    intro l a V hp hall
    obtain ⟨V', v, ⟨h1, V0, hV0, hgr⟩, hV⟩ := hp.j.2.1 (hall 14 (by decide))
    exact hQ a V V' v hp.nt hp.df (fun t ht => hp.keep t (dstIn (by kernel_rfl) ht)) h1 (below_grown (hV0.mono (unhide HSZ)) hgr (by have := hV0.size; have := unhide HSZ; omega) (unhide HTV).row) hV
def runChecksF (q pb ab ao al ac k : Nat) (tv iv : Value) (z : Int) (A : Bool) : Nat → Value → Prop
  | 0, v => v = .pointer (some ⟨q, 1, none⟩)
  | 1, v => v = tv
  | 2, v => v = iv
  | 3, v => v = .pointer (some ⟨pb, 5, none⟩)
  | 4, v => v = .slice (some ⟨ab, ao, none⟩) al ac
  | 5, v => v = .int .i64 (k : Int)
  | 6, v => v = .pointer (some ⟨ab, ao + k * 2, none⟩)
  | 7, v => v = .pointer (some ⟨ab, ao + k * 2 + 1, none⟩)
  | 8, v => v = .int .i64 z
  | 9, v => v = .int .i64 (b2i A)
  | 10, v => v = .string (txt1 A)
  | 13, v => v = .pointer (some ⟨q, 1, none⟩)
  | _, _ => True
def runChecksOps : Array Oper := #[{ dst := some 166, op := Op.fieldAddr 75 (Operand.tmp 17) 1, type := 0, pos := "l10_aig.go:144", after := #[], guard := none }, { dst := some 167, op := Op.load 22 (Operand.tmp 166), type := 22, pos := "l10_aig.go:144", after := #[{ on := 0, ground := Ground.data }], guard := none }, { dst := some 168, op := Op.move (Operand.tmp 14), type := 67, pos := "l10_aig.go:144", after := #[], guard := none }, { dst := some 169, op := Op.fieldAddr 38 (Operand.tmp 2) 5, type := 0, pos := "l10_aig.go:144", after := #[], guard := none }, { dst := some 170, op := Op.load 36 (Operand.tmp 169), type := 36, pos := "l10_aig.go:144", after := #[{ on := 3, ground := Ground.data }], guard := none }, { dst := some 171, op := Op.move (Operand.tmp 19), type := 3, pos := "l10_aig.go:144", after := #[], guard := none }, { dst := some 172, op := Op.indexAddr 36 (Operand.tmp 170) (Operand.tmp 171), type := 0, pos := "l10_aig.go:144", after := #[{ on := 4, ground := Ground.data }, { on := 5, ground := Ground.data }], guard := none }, { dst := some 173, op := Op.fieldAddr 78 (Operand.tmp 172) 1, type := 0, pos := "l10_aig.go:144", after := #[{ on := 6, ground := Ground.data }], guard := none }, { dst := some 174, op := Op.load 3 (Operand.tmp 173), type := 3, pos := "l10_aig.go:144", after := #[{ on := 7, ground := Ground.data }], guard := none }, { dst := some 175, op := Op.call { callee := Callee.value (Operand.func 26), args := #[Operand.tmp 168, Operand.tmp 174], argTypes := #[67, 3] }, type := 3, pos := "l10_aig.go:144", after := #[{ on := 2, ground := Ground.data }, { on := 8, ground := Ground.data }], guard := none }, { dst := some 176, op := Op.call { callee := Callee.value (Operand.func 27), args := #[Operand.tmp 175], argTypes := #[3] }, type := 9, pos := "l10_aig.go:144", after := #[{ on := 9, ground := Ground.data }, { on := 9, ground := Ground.chain }], guard := none }, { dst := some 177, op := Op.buildSlice 22 1 #[(0, Operand.tmp 176)], type := 22, pos := "l10_aig.go:144", after := #[{ on := 10, ground := Ground.data }], guard := none }, { dst := some 178, op := Op.call { callee := Callee.builtin Builtin.append, args := #[Operand.tmp 167, Operand.tmp 177], argTypes := #[22, 22] }, type := 22, pos := "l10_aig.go:144", after := #[{ on := 1, ground := Ground.data }, { on := 11, ground := Ground.data }, { on := 10, ground := Ground.chain }], guard := none }, { dst := some 179, op := Op.fieldAddr 75 (Operand.tmp 17) 1, type := 0, pos := "l10_aig.go:144", after := #[{ on := 0, ground := Ground.phase }, { on := 1, ground := Ground.phase }, { on := 2, ground := Ground.phase }, { on := 3, ground := Ground.phase }, { on := 4, ground := Ground.phase }, { on := 5, ground := Ground.phase }, { on := 6, ground := Ground.phase }, { on := 7, ground := Ground.phase }, { on := 8, ground := Ground.phase }, { on := 9, ground := Ground.phase }, { on := 10, ground := Ground.phase }, { on := 11, ground := Ground.phase }, { on := 12, ground := Ground.phase }], guard := none }, { dst := none, op := Op.store 22 (Operand.tmp 179) (Operand.tmp 178), type := 0, pos := "l10_aig.go:144", after := #[{ on := 13, ground := Ground.data }, { on := 12, ground := Ground.data }, { on := 12, ground := Ground.chain }, { on := 0, ground := Ground.phase }, { on := 1, ground := Ground.phase }, { on := 2, ground := Ground.phase }, { on := 3, ground := Ground.phase }, { on := 4, ground := Ground.phase }, { on := 5, ground := Ground.phase }, { on := 6, ground := Ground.phase }, { on := 7, ground := Ground.phase }, { on := 8, ground := Ground.phase }, { on := 9, ground := Ground.phase }, { on := 10, ground := Ground.phase }, { on := 11, ground := Ground.phase }, { on := 12, ground := Ground.phase }], guard := none }]
set_option maxHeartbeats 16000000 in
theorem runChecks {q pb ab ao al ac k N : Nat} {tv iv : Value} {z : Int} {A : Bool} {acc : List ByteArray} {wr : World} {Q : Exit → Act → World → Prop} (HTV : Hid (OT N wr tv acc)) (htv : ∃ a l c, tv = .slice a l c) (hiv : ∃ a l c, iv = .slice a l c) (HAL : Hid (acc.length ≤ 1048576)) (HSZ : Hid (N ≤ wr.heap.size)) (HQ4 : Hid (q < N)) (HQC : Hid (wr.cell? ⟨q, 1, none⟩ = some tv)) (HQF : Hid (wr.frozen? ⟨q, 1, none⟩ = false)) (hkl : k < al) (hk3 : al ≤ 1048576) (HPC : Hid (wr.cell? ⟨pb, 5, none⟩ = some (.slice (some ⟨ab, ao, none⟩) al ac))) (HZ : Hid (wr.cell? ⟨ab, ao + k * 2 + 1, none⟩ = some (.int .i64 z))) (HCO : Hid (∀ V, Below wr.heap.size wr V → Calls Tryz.prog 26 #[iv, .int .i64 z] V fun e w' => e = .returned (.int .i64 (b2i A)) ∧ Below V.heap.size V w'))
    (a0 : Act) (ha0 : a0.tmps.size = 201) (e17 : a0.eval (.tmp 17) = .pointer (some ⟨q, 0, none⟩)) (e14 : a0.eval (.tmp 14) = iv) (e2 : a0.eval (.tmp 2) = .pointer (some ⟨pb, 0, none⟩)) (e19 : a0.eval (.tmp 19) = .int .i64 (k : Int))
    (hQ : ∀ a V V' v, a.tmps.size = a0.tmps.size → a.defers = a0.defers → (∀ t, t ∉ [166, 167, 168, 169, 170, 171, 172, 173, 174, 175, 176, 177, 178, 179] → a.eval (.tmp t) = a0.eval (.tmp t)) → OT N V' v (acc ++ [txt1 A]) → Below N wr V' → V = V'.setCell ⟨q, 1, none⟩ v → Q .normal a V) :
    (Code.region 43 runChecksOps true).wp Tryz.prog Q a0 wr := by
  obtain ⟨i0, hi, hz0, hz1, hz2⟩ := info_parts info9
  have HI := hide (And.intro hi (And.intro hz0 (And.intro hz1 hz2)))
  have HCT : Hid (∀ V, Calls Tryz.prog 27 #[.int .i64 (b2i A)] V fun e w' => e = .returned (.string (txt1 A)) ∧ Below V.heap.size V w') := hide (fun V => by
    refine (sText A V).mono ?_
    rintro e w' ⟨rfl, rfl⟩
    exact ⟨rfl, brf _⟩)
  obtain ⟨ta, tl, tc, htv⟩ := htv
  have j1 : (0 : Int) ≤ (k : Int) := by omega
  have j2 : (k : Int) < (al : Int) := by omega
  clear hi hz0 hz1 hz2
  refine wp_plan (GA (runChecksF q pb ab ao al ac k tv iv z A) (F2S wr 11 (txt1 A)) 12 14 (fun v V => OT N V v (acc ++ [txt1 A]) ∧ ∃ V0, Below wr.heap.size wr V0 ∧ V0.grownBy V tv.ownBlock)) (JA wr 12 14 (fun v V => OT N V v (acc ++ [txt1 A]) ∧ ∃ V0, Below wr.heap.size wr V0 ∧ V0.grownBy V tv.ownBlock) (fun V' => ∃ V v, (fun v V => OT N V v (acc ++ [txt1 A]) ∧ ∃ V0, Below wr.heap.size wr V0 ∧ V0.grownBy V tv.ownBlock) v V ∧ V' = V.setCell ⟨q, 1, none⟩ v)) (by kernel_rfl) 201 ha0 (by kernel_rfl) ?hj ?hs ?hf
  case hj => exact JA.start (bdr (brf wr))
  case hs =>
    refine ⟨?_, ?_, ?_, ?_, ?_, ?_, ?_, ?_, ?_, ?_, ?_, ?_, ?_, ?_, ?_, trivial⟩
    · exact sa_val (by decide) (by decide) (fun l a w hp hu => ⟨(und hp (k := 1) (j := 12) (by kernel_rfl) (und hp (k := 0) (j := 1) (by kernel_rfl) hu)), (und hp (k := 0) (j := 14) (by kernel_rfl) hu)⟩) rfl (fun l a V hp h1 hB ha => ⟨.pointer (some ⟨q, 1, none⟩), by
        have x17 := (ev_form a 17).trans (old hp 17 (v := .pointer (some ⟨q, 0, none⟩)) (by kernel_rfl) e17)
        go_simp, rfl, fun e => absurd e (by decide)⟩)
    · exact sa_val (by decide) (by decide) (fun l a w hp hu => ⟨(und hp (k := 1) (j := 12) (by kernel_rfl) hu), (und hp (k := 1) (j := 14) (by kernel_rfl) hu)⟩) rfl (fun l a V hp h1 hB ha => ⟨tv, by
        have x166 := (ev_form a 166).trans (show a.eval (.tmp 166) = .pointer (some ⟨q, 1, none⟩) from (kn hp ha 166 0 (by kernel_rfl) (by kernel_rfl)).1)
        have mq := cell_later hB (unhide HQC)
        go_simp, rfl, fun e => absurd e (by decide)⟩)
    · exact sa_val (by decide) (by decide) (fun l a w hp hu => ⟨(und hp (k := 10) (j := 12) (by kernel_rfl) (und hp (k := 9) (j := 10) (by kernel_rfl) (und hp (k := 2) (j := 9) (by kernel_rfl) hu))), (und hp (k := 2) (j := 14) (by kernel_rfl) hu)⟩) rfl (fun l a V hp h1 hB ha => ⟨iv, by
        have x14 := (ev_form a 14).trans (old hp 14 (v := iv) (by kernel_rfl) e14)
        go_simp, rfl, fun e => absurd e (by decide)⟩)
    · exact sa_val (by decide) (by decide) (fun l a w hp hu => ⟨(und hp (k := 10) (j := 12) (by kernel_rfl) (und hp (k := 9) (j := 10) (by kernel_rfl) (und hp (k := 8) (j := 9) (by kernel_rfl) (und hp (k := 7) (j := 8) (by kernel_rfl) (und hp (k := 6) (j := 7) (by kernel_rfl) (und hp (k := 4) (j := 6) (by kernel_rfl) (und hp (k := 3) (j := 4) (by kernel_rfl) hu))))))), (und hp (k := 3) (j := 14) (by kernel_rfl) hu)⟩) rfl (fun l a V hp h1 hB ha => ⟨.pointer (some ⟨pb, 5, none⟩), by
        have x2 := (ev_form a 2).trans (old hp 2 (v := .pointer (some ⟨pb, 0, none⟩)) (by kernel_rfl) e2)
        go_simp, rfl, fun e => absurd e (by decide)⟩)
    · exact sa_val (by decide) (by decide) (fun l a w hp hu => ⟨(und hp (k := 10) (j := 12) (by kernel_rfl) (und hp (k := 9) (j := 10) (by kernel_rfl) (und hp (k := 8) (j := 9) (by kernel_rfl) (und hp (k := 7) (j := 8) (by kernel_rfl) (und hp (k := 6) (j := 7) (by kernel_rfl) (und hp (k := 4) (j := 6) (by kernel_rfl) hu)))))), (und hp (k := 4) (j := 14) (by kernel_rfl) hu)⟩) rfl (fun l a V hp h1 hB ha => ⟨.slice (some ⟨ab, ao, none⟩) al ac, by
        have x169 := (ev_form a 169).trans (show a.eval (.tmp 169) = .pointer (some ⟨pb, 5, none⟩) from (kn hp ha 169 3 (by kernel_rfl) (by kernel_rfl)).1)
        have mp := cell_later hB (unhide HPC)
        go_simp, rfl, fun e => absurd e (by decide)⟩)
    · exact sa_val (by decide) (by decide) (fun l a w hp hu => ⟨(und hp (k := 10) (j := 12) (by kernel_rfl) (und hp (k := 9) (j := 10) (by kernel_rfl) (und hp (k := 8) (j := 9) (by kernel_rfl) (und hp (k := 7) (j := 8) (by kernel_rfl) (und hp (k := 6) (j := 7) (by kernel_rfl) (und hp (k := 5) (j := 6) (by kernel_rfl) hu)))))), (und hp (k := 5) (j := 14) (by kernel_rfl) hu)⟩) rfl (fun l a V hp h1 hB ha => ⟨.int .i64 (k : Int), by
        have x19 := (ev_form a 19).trans (old hp 19 (v := .int .i64 (k : Int)) (by kernel_rfl) e19)
        go_simp, rfl, fun e => absurd e (by decide)⟩)
    · exact sa_val (by decide) (by decide) (fun l a w hp hu => ⟨(und hp (k := 10) (j := 12) (by kernel_rfl) (und hp (k := 9) (j := 10) (by kernel_rfl) (und hp (k := 8) (j := 9) (by kernel_rfl) (und hp (k := 7) (j := 8) (by kernel_rfl) (und hp (k := 6) (j := 7) (by kernel_rfl) hu))))), (und hp (k := 6) (j := 14) (by kernel_rfl) hu)⟩) rfl (fun l a V hp h1 hB ha => ⟨.pointer (some ⟨ab, ao + k * 2, none⟩), by
        have x170 := (ev_form a 170).trans (show a.eval (.tmp 170) = .slice (some ⟨ab, ao, none⟩) al ac from (kn hp ha 170 4 (by kernel_rfl) (by kernel_rfl)).1)
        have x171 := (ev_form a 171).trans (show a.eval (.tmp 171) = .int .i64 (k : Int) from (kn hp ha 171 5 (by kernel_rfl) (by kernel_rfl)).1)
        go_simp, rfl, fun e => absurd e (by decide)⟩)
    · exact sa_val (by decide) (by decide) (fun l a w hp hu => ⟨(und hp (k := 10) (j := 12) (by kernel_rfl) (und hp (k := 9) (j := 10) (by kernel_rfl) (und hp (k := 8) (j := 9) (by kernel_rfl) (und hp (k := 7) (j := 8) (by kernel_rfl) hu)))), (und hp (k := 7) (j := 14) (by kernel_rfl) hu)⟩) rfl (fun l a V hp h1 hB ha => ⟨.pointer (some ⟨ab, ao + k * 2 + 1, none⟩), by
        have x172 := (ev_form a 172).trans (show a.eval (.tmp 172) = .pointer (some ⟨ab, ao + k * 2, none⟩) from (kn hp ha 172 6 (by kernel_rfl) (by kernel_rfl)).1)
        go_simp, rfl, fun e => absurd e (by decide)⟩)
    · exact sa_val (by decide) (by decide) (fun l a w hp hu => ⟨(und hp (k := 10) (j := 12) (by kernel_rfl) (und hp (k := 9) (j := 10) (by kernel_rfl) (und hp (k := 8) (j := 9) (by kernel_rfl) hu))), (und hp (k := 8) (j := 14) (by kernel_rfl) hu)⟩) rfl (fun l a V hp h1 hB ha => ⟨.int .i64 z, by
        have x173 := (ev_form a 173).trans (show a.eval (.tmp 173) = .pointer (some ⟨ab, ao + k * 2 + 1, none⟩) from (kn hp ha 173 7 (by kernel_rfl) (by kernel_rfl)).1)
        have mz := cell_later hB (unhide HZ)
        go_simp, rfl, fun e => absurd e (by decide)⟩)
    · exact sa_call (f := 26) (F2S.lasts _ _ _) (by decide) (by decide) (fun l a w hp hu => ⟨(und hp (k := 10) (j := 12) (by kernel_rfl) (und hp (k := 9) (j := 10) (by kernel_rfl) hu)), (und hp (k := 9) (j := 14) (by kernel_rfl) hu)⟩) rfl (fun l a V hp h1 hB ha => ⟨#[iv, .int .i64 z], by
        have x168 := (ev_form a 168).trans (show a.eval (.tmp 168) = iv from (kn hp ha 168 2 (by kernel_rfl) (by kernel_rfl)).1)
        have x174 := (ev_form a 174).trans (show a.eval (.tmp 174) = .int .i64 z from (kn hp ha 174 8 (by kernel_rfl) (by kernel_rfl)).1)
        go_simp, (unhide HCO V hB).mono (by rintro e V1 ⟨rfl, hb⟩; exact ⟨_, rfl, rfl, fun e => absurd e (by decide), hb⟩)⟩)
    · exact sa_call (f := 27) (F2S.lasts _ _ _) (by decide) (by decide) (fun l a w hp hu => ⟨(und hp (k := 10) (j := 12) (by kernel_rfl) hu), (und hp (k := 10) (j := 14) (by kernel_rfl) hu)⟩) rfl (fun l a V hp h1 hB ha => ⟨#[.int .i64 (b2i A)], by
        have x175 := (ev_form a 175).trans (show a.eval (.tmp 175) = .int .i64 (b2i A) from (kn hp ha 175 9 (by kernel_rfl) (by kernel_rfl)).1)
        go_simp, (unhide HCT V).mono (by rintro e V1 ⟨rfl, hb⟩; exact ⟨_, rfl, rfl, fun e => absurd e (by decide), hb⟩)⟩)
    · exact sa_new (F2S.lasts _ _ _) (by decide) (by decide) (fun l a w hp hu => ⟨(und hp (k := 11) (j := 12) (by kernel_rfl) hu), (und hp (k := 11) (j := 14) (by kernel_rfl) hu)⟩) rfl (fun l a V hp h1 hB ha => ⟨.slice (some ⟨V.heap.size, 0, none⟩) 1 1, .cells #[.string (txt1 A)] 9, by
        have x176 := (ev_form a 176).trans (show a.eval (.tmp 176) = .string (txt1 A) from (kn hp ha 176 10 (by kernel_rfl) (by kernel_rfl)).1)
        go_simp, trivial, fun _ => ⟨V.heap.size, rfl, hB.size, by rw [World.cell?_alloc_new]; rfl⟩⟩)
    · refine sa_app (by decide) (fun l a w hp hu => (und hp (k := 12) (j := 14) (by kernel_rfl) hu)) rfl (fun l a V hp h1 hB ha => ?_)
      have hv1 : a.eval (.tmp 167) = tv := (kn hp ha 167 1 (by kernel_rfl) (by kernel_rfl)).1
      obtain ⟨M1, hv2, hM, hMc⟩ := (kn hp ha 177 11 (by kernel_rfl) (by kernel_rfl)).2.1 h1 rfl
      have hot := (unhide HTV).later hB
      obtain ⟨v', w', hr, h2, h3, _⟩ := run_append_own (P := Tryz.prog) V N 22 22 9 i0 (.string ByteArray.empty) 1 16 Tryz.underlying22 (unhide HI).1 (unhide HI).2.1 (unhide HI).2.2.1 (unhide HI).2.2.2 rfl (by decide) tv acc.length _ hot.1 ⟨M1, 0, none⟩ 1 1 [.string (txt1 A)] rfl (by
        intro j u hj
        match j, hj with
        | 0, hj => simp at hj; subst hj; simpa [Addr.add] using hMc
        | j + 1, hj => simp at hj) (oneT _) (by have := unhide HAL; unfold maxLen; omega) (by have := unhide HAL; omega) (by have h1 := hB.size; have h2 := unhide HSZ; omega)
      refine ⟨v', w', ?_, ⟨OT.step h2 hot.2 (txt1_size A), V, hB, h3⟩, trivial⟩
      unfold execOp
      simp only [resolve, invoke, builtin, Sem.run_bind, Sem.run_pure, Result.andThen_ok, List.map_toArray, List.map_cons, List.map_nil, hv1, hv2, hr]
    · exact sa_float (by decide) (by decide) (fun l a w hp hu => (und hp (k := 13) (j := 14) (by kernel_rfl) hu)) rfl (fun l a V hp ha => ⟨.pointer (some ⟨q, 1, none⟩), by
        have x17 := (ev_form a 17).trans (old hp 17 (v := .pointer (some ⟨q, 0, none⟩)) (by kernel_rfl) e17)
        go_simp, rfl, fun e => absurd e (by decide)⟩)
    · refine sa_last (t := 178) (by decide) rfl rfl (by kernel_rfl) (fun l a V hp hA ha => ?_) trivial
      have x179 := (ev_form a 179).trans (show a.eval (.tmp 179) = .pointer (some ⟨q, 1, none⟩) from (kn hp ha 179 13 (by kernel_rfl) (by kernel_rfl)).1)
      have x178 := ev_form a 178
      obtain ⟨h1, V0, hV0, hgr⟩ := id hA
      have hlow := below_grown (hV0.mono (unhide HSZ)) hgr (by have := hV0.size; have := unhide HSZ; omega) (unhide HTV).row
      have m1 := hlow.cell (p := ⟨q, 1, none⟩) (unhide HQ4)
      rw [unhide HQC] at m1
      have m2 := hlow.frozen (p := ⟨q, 1, none⟩) (unhide HQ4)
      rw [unhide HQF] at m2
      generalize a.eval (.tmp 178) = tv' at *
      obtain ⟨sa, sl, sc, rfl⟩ := h1.shape
      exact ⟨V.setCell ⟨q, 1, none⟩ (.slice sa sl sc), by clear hA h1 hgr hlow; go_simp, ⟨V, _, hA, rfl⟩⟩
  case hf =>
    intro l a V hp hall
    obtain ⟨V', v, ⟨h1, V0, hV0, hgr⟩, hV⟩ := hp.j.2.1 (hall 14 (by decide))
    exact hQ a V V' v hp.nt hp.df (fun t ht => hp.keep t (dstIn (by kernel_rfl) ht)) h1 (below_grown (hV0.mono (unhide HSZ)) hgr (by have := hV0.size; have := unhide HSZ; omega) (unhide HTV).row) hV
def runRegsF (q ab ao al ac k : Nat) (tv : Value) (A : Bool) : Nat → Value → Prop
  | 0, v => v = .pointer (some ⟨q, 2, none⟩)
  | 1, v => v = tv
  | 2, v => v = .slice (some ⟨ab, ao, none⟩) al ac
  | 3, v => v = .int .i64 (k : Int)
  | 4, v => v = .pointer (some ⟨ab, ao + k, none⟩)
  | 5, v => v = .int .i64 (b2i A)
  | 6, v => v = .string (txt1 A)
  | 9, v => v = .pointer (some ⟨q, 2, none⟩)
  | _, _ => True
def runRegsOps : Array Oper := #[{ dst := some 186, op := Op.fieldAddr 75 (Operand.tmp 17) 2, type := 0, pos := "l10_aig.go:147", after := #[], guard := none }, { dst := some 187, op := Op.load 22 (Operand.tmp 186), type := 22, pos := "l10_aig.go:147", after := #[{ on := 0, ground := Ground.data }], guard := none }, { dst := some 188, op := Op.move (Operand.tmp 8), type := 67, pos := "l10_aig.go:147", after := #[], guard := none }, { dst := some 189, op := Op.move (Operand.tmp 20), type := 3, pos := "l10_aig.go:147", after := #[], guard := none }, { dst := some 190, op := Op.indexAddr 67 (Operand.tmp 188) (Operand.tmp 189), type := 0, pos := "l10_aig.go:147", after := #[{ on := 2, ground := Ground.data }, { on := 3, ground := Ground.data }], guard := none }, { dst := some 191, op := Op.load 3 (Operand.tmp 190), type := 3, pos := "l10_aig.go:147", after := #[{ on := 4, ground := Ground.data }], guard := none }, { dst := some 192, op := Op.call { callee := Callee.value (Operand.func 27), args := #[Operand.tmp 191], argTypes := #[3] }, type := 9, pos := "l10_aig.go:147", after := #[{ on := 5, ground := Ground.data }], guard := none }, { dst := some 193, op := Op.buildSlice 22 1 #[(0, Operand.tmp 192)], type := 22, pos := "l10_aig.go:147", after := #[{ on := 6, ground := Ground.data }], guard := none }, { dst := some 194, op := Op.call { callee := Callee.builtin Builtin.append, args := #[Operand.tmp 187, Operand.tmp 193], argTypes := #[22, 22] }, type := 22, pos := "l10_aig.go:147", after := #[{ on := 1, ground := Ground.data }, { on := 7, ground := Ground.data }, { on := 6, ground := Ground.chain }], guard := none }, { dst := some 195, op := Op.fieldAddr 75 (Operand.tmp 17) 2, type := 0, pos := "l10_aig.go:147", after := #[{ on := 0, ground := Ground.phase }, { on := 1, ground := Ground.phase }, { on := 2, ground := Ground.phase }, { on := 3, ground := Ground.phase }, { on := 4, ground := Ground.phase }, { on := 5, ground := Ground.phase }, { on := 6, ground := Ground.phase }, { on := 7, ground := Ground.phase }, { on := 8, ground := Ground.phase }], guard := none }, { dst := none, op := Op.store 22 (Operand.tmp 195) (Operand.tmp 194), type := 0, pos := "l10_aig.go:147", after := #[{ on := 9, ground := Ground.data }, { on := 8, ground := Ground.data }, { on := 8, ground := Ground.chain }, { on := 0, ground := Ground.phase }, { on := 1, ground := Ground.phase }, { on := 2, ground := Ground.phase }, { on := 3, ground := Ground.phase }, { on := 4, ground := Ground.phase }, { on := 5, ground := Ground.phase }, { on := 6, ground := Ground.phase }, { on := 7, ground := Ground.phase }, { on := 8, ground := Ground.phase }], guard := none }]
set_option maxHeartbeats 16000000 in
theorem runRegs {q ab ao al ac k N : Nat} {tv : Value} {A : Bool} {acc : List ByteArray} {wr : World} {Q : Exit → Act → World → Prop} (HTV : Hid (OT N wr tv acc)) (htv : ∃ a l c, tv = .slice a l c) (HAL : Hid (acc.length ≤ 1048576)) (HSZ : Hid (N ≤ wr.heap.size)) (HQ4 : Hid (q < N)) (HQC : Hid (wr.cell? ⟨q, 2, none⟩ = some tv)) (HQF : Hid (wr.frozen? ⟨q, 2, none⟩ = false)) (hkl : k < al) (hk3 : al ≤ 1048576) (HZ : Hid (wr.cell? ⟨ab, ao + k, none⟩ = some (.int .i64 (b2i A))))
    (a0 : Act) (ha0 : a0.tmps.size = 201) (e17 : a0.eval (.tmp 17) = .pointer (some ⟨q, 0, none⟩)) (e8 : a0.eval (.tmp 8) = .slice (some ⟨ab, ao, none⟩) al ac) (e20 : a0.eval (.tmp 20) = .int .i64 (k : Int))
    (hQ : ∀ a V V' v, a.tmps.size = a0.tmps.size → a.defers = a0.defers → (∀ t, t ∉ [186, 187, 188, 189, 190, 191, 192, 193, 194, 195] → a.eval (.tmp t) = a0.eval (.tmp t)) → OT N V' v (acc ++ [txt1 A]) → Below N wr V' → V = V'.setCell ⟨q, 2, none⟩ v → Q .normal a V) :
    (Code.region 47 runRegsOps true).wp Tryz.prog Q a0 wr := by
  obtain ⟨i0, hi, hz0, hz1, hz2⟩ := info_parts info9
  have HI := hide (And.intro hi (And.intro hz0 (And.intro hz1 hz2)))
  have HCT : Hid (∀ V, Calls Tryz.prog 27 #[.int .i64 (b2i A)] V fun e w' => e = .returned (.string (txt1 A)) ∧ Below V.heap.size V w') := hide (fun V => by
    refine (sText A V).mono ?_
    rintro e w' ⟨rfl, rfl⟩
    exact ⟨rfl, brf _⟩)
  obtain ⟨ta, tl, tc, htv⟩ := htv
  have j1 : (0 : Int) ≤ (k : Int) := by omega
  have j2 : (k : Int) < (al : Int) := by omega
  clear hi hz0 hz1 hz2
  refine wp_plan (GA (runRegsF q ab ao al ac k tv A) (F2S wr 7 (txt1 A)) 8 10 (fun v V => OT N V v (acc ++ [txt1 A]) ∧ ∃ V0, Below wr.heap.size wr V0 ∧ V0.grownBy V tv.ownBlock)) (JA wr 8 10 (fun v V => OT N V v (acc ++ [txt1 A]) ∧ ∃ V0, Below wr.heap.size wr V0 ∧ V0.grownBy V tv.ownBlock) (fun V' => ∃ V v, (fun v V => OT N V v (acc ++ [txt1 A]) ∧ ∃ V0, Below wr.heap.size wr V0 ∧ V0.grownBy V tv.ownBlock) v V ∧ V' = V.setCell ⟨q, 2, none⟩ v)) (by kernel_rfl) 201 ha0 (by kernel_rfl) ?hj ?hs ?hf
  case hj => exact JA.start (bdr (brf wr))
  case hs =>
    refine ⟨?_, ?_, ?_, ?_, ?_, ?_, ?_, ?_, ?_, ?_, ?_, trivial⟩
    · exact sa_val (by decide) (by decide) (fun l a w hp hu => ⟨(und hp (k := 1) (j := 8) (by kernel_rfl) (und hp (k := 0) (j := 1) (by kernel_rfl) hu)), (und hp (k := 0) (j := 10) (by kernel_rfl) hu)⟩) rfl (fun l a V hp h1 hB ha => ⟨.pointer (some ⟨q, 2, none⟩), by
        have x17 := (ev_form a 17).trans (old hp 17 (v := .pointer (some ⟨q, 0, none⟩)) (by kernel_rfl) e17)
        go_simp, rfl, fun e => absurd e (by decide)⟩)
    · exact sa_val (by decide) (by decide) (fun l a w hp hu => ⟨(und hp (k := 1) (j := 8) (by kernel_rfl) hu), (und hp (k := 1) (j := 10) (by kernel_rfl) hu)⟩) rfl (fun l a V hp h1 hB ha => ⟨tv, by
        have x186 := (ev_form a 186).trans (show a.eval (.tmp 186) = .pointer (some ⟨q, 2, none⟩) from (kn hp ha 186 0 (by kernel_rfl) (by kernel_rfl)).1)
        have mq := cell_later hB (unhide HQC)
        go_simp, rfl, fun e => absurd e (by decide)⟩)
    · exact sa_val (by decide) (by decide) (fun l a w hp hu => ⟨(und hp (k := 6) (j := 8) (by kernel_rfl) (und hp (k := 5) (j := 6) (by kernel_rfl) (und hp (k := 4) (j := 5) (by kernel_rfl) (und hp (k := 2) (j := 4) (by kernel_rfl) hu)))), (und hp (k := 2) (j := 10) (by kernel_rfl) hu)⟩) rfl (fun l a V hp h1 hB ha => ⟨.slice (some ⟨ab, ao, none⟩) al ac, by
        have x8 := (ev_form a 8).trans (old hp 8 (v := .slice (some ⟨ab, ao, none⟩) al ac) (by kernel_rfl) e8)
        go_simp, rfl, fun e => absurd e (by decide)⟩)
    · exact sa_val (by decide) (by decide) (fun l a w hp hu => ⟨(und hp (k := 6) (j := 8) (by kernel_rfl) (und hp (k := 5) (j := 6) (by kernel_rfl) (und hp (k := 4) (j := 5) (by kernel_rfl) (und hp (k := 3) (j := 4) (by kernel_rfl) hu)))), (und hp (k := 3) (j := 10) (by kernel_rfl) hu)⟩) rfl (fun l a V hp h1 hB ha => ⟨.int .i64 (k : Int), by
        have x20 := (ev_form a 20).trans (old hp 20 (v := .int .i64 (k : Int)) (by kernel_rfl) e20)
        go_simp, rfl, fun e => absurd e (by decide)⟩)
    · exact sa_val (by decide) (by decide) (fun l a w hp hu => ⟨(und hp (k := 6) (j := 8) (by kernel_rfl) (und hp (k := 5) (j := 6) (by kernel_rfl) (und hp (k := 4) (j := 5) (by kernel_rfl) hu))), (und hp (k := 4) (j := 10) (by kernel_rfl) hu)⟩) rfl (fun l a V hp h1 hB ha => ⟨.pointer (some ⟨ab, ao + k, none⟩), by
        have x188 := (ev_form a 188).trans (show a.eval (.tmp 188) = .slice (some ⟨ab, ao, none⟩) al ac from (kn hp ha 188 2 (by kernel_rfl) (by kernel_rfl)).1)
        have x189 := (ev_form a 189).trans (show a.eval (.tmp 189) = .int .i64 (k : Int) from (kn hp ha 189 3 (by kernel_rfl) (by kernel_rfl)).1)
        go_simp, rfl, fun e => absurd e (by decide)⟩)
    · exact sa_val (by decide) (by decide) (fun l a w hp hu => ⟨(und hp (k := 6) (j := 8) (by kernel_rfl) (und hp (k := 5) (j := 6) (by kernel_rfl) hu)), (und hp (k := 5) (j := 10) (by kernel_rfl) hu)⟩) rfl (fun l a V hp h1 hB ha => ⟨.int .i64 (b2i A), by
        have x190 := (ev_form a 190).trans (show a.eval (.tmp 190) = .pointer (some ⟨ab, ao + k, none⟩) from (kn hp ha 190 4 (by kernel_rfl) (by kernel_rfl)).1)
        have mz := cell_later hB (unhide HZ)
        go_simp, rfl, fun e => absurd e (by decide)⟩)
    · exact sa_call (f := 27) (F2S.lasts _ _ _) (by decide) (by decide) (fun l a w hp hu => ⟨(und hp (k := 6) (j := 8) (by kernel_rfl) hu), (und hp (k := 6) (j := 10) (by kernel_rfl) hu)⟩) rfl (fun l a V hp h1 hB ha => ⟨#[.int .i64 (b2i A)], by
        have x191 := (ev_form a 191).trans (show a.eval (.tmp 191) = .int .i64 (b2i A) from (kn hp ha 191 5 (by kernel_rfl) (by kernel_rfl)).1)
        go_simp, (unhide HCT V).mono (by rintro e V1 ⟨rfl, hb⟩; exact ⟨_, rfl, rfl, fun e => absurd e (by decide), hb⟩)⟩)
    · exact sa_new (F2S.lasts _ _ _) (by decide) (by decide) (fun l a w hp hu => ⟨(und hp (k := 7) (j := 8) (by kernel_rfl) hu), (und hp (k := 7) (j := 10) (by kernel_rfl) hu)⟩) rfl (fun l a V hp h1 hB ha => ⟨.slice (some ⟨V.heap.size, 0, none⟩) 1 1, .cells #[.string (txt1 A)] 9, by
        have x192 := (ev_form a 192).trans (show a.eval (.tmp 192) = .string (txt1 A) from (kn hp ha 192 6 (by kernel_rfl) (by kernel_rfl)).1)
        go_simp, trivial, fun _ => ⟨V.heap.size, rfl, hB.size, by rw [World.cell?_alloc_new]; rfl⟩⟩)
    · refine sa_app (by decide) (fun l a w hp hu => (und hp (k := 8) (j := 10) (by kernel_rfl) hu)) rfl (fun l a V hp h1 hB ha => ?_)
      have hv1 : a.eval (.tmp 187) = tv := (kn hp ha 187 1 (by kernel_rfl) (by kernel_rfl)).1
      obtain ⟨M1, hv2, hM, hMc⟩ := (kn hp ha 193 7 (by kernel_rfl) (by kernel_rfl)).2.1 h1 rfl
      have hot := (unhide HTV).later hB
      obtain ⟨v', w', hr, h2, h3, _⟩ := run_append_own (P := Tryz.prog) V N 22 22 9 i0 (.string ByteArray.empty) 1 16 Tryz.underlying22 (unhide HI).1 (unhide HI).2.1 (unhide HI).2.2.1 (unhide HI).2.2.2 rfl (by decide) tv acc.length _ hot.1 ⟨M1, 0, none⟩ 1 1 [.string (txt1 A)] rfl (by
        intro j u hj
        match j, hj with
        | 0, hj => simp at hj; subst hj; simpa [Addr.add] using hMc
        | j + 1, hj => simp at hj) (oneT _) (by have := unhide HAL; unfold maxLen; omega) (by have := unhide HAL; omega) (by have h1 := hB.size; have h2 := unhide HSZ; omega)
      refine ⟨v', w', ?_, ⟨OT.step h2 hot.2 (txt1_size A), V, hB, h3⟩, trivial⟩
      unfold execOp
      simp only [resolve, invoke, builtin, Sem.run_bind, Sem.run_pure, Result.andThen_ok, List.map_toArray, List.map_cons, List.map_nil, hv1, hv2, hr]
    · exact sa_float (by decide) (by decide) (fun l a w hp hu => (und hp (k := 9) (j := 10) (by kernel_rfl) hu)) rfl (fun l a V hp ha => ⟨.pointer (some ⟨q, 2, none⟩), by
        have x17 := (ev_form a 17).trans (old hp 17 (v := .pointer (some ⟨q, 0, none⟩)) (by kernel_rfl) e17)
        go_simp, rfl, fun e => absurd e (by decide)⟩)
    · refine sa_last (t := 194) (by decide) rfl rfl (by kernel_rfl) (fun l a V hp hA ha => ?_) trivial
      have x195 := (ev_form a 195).trans (show a.eval (.tmp 195) = .pointer (some ⟨q, 2, none⟩) from (kn hp ha 195 9 (by kernel_rfl) (by kernel_rfl)).1)
      have x194 := ev_form a 194
      obtain ⟨h1, V0, hV0, hgr⟩ := id hA
      have hlow := below_grown (hV0.mono (unhide HSZ)) hgr (by have := hV0.size; have := unhide HSZ; omega) (unhide HTV).row
      have m1 := hlow.cell (p := ⟨q, 2, none⟩) (unhide HQ4)
      rw [unhide HQC] at m1
      have m2 := hlow.frozen (p := ⟨q, 2, none⟩) (unhide HQ4)
      rw [unhide HQF] at m2
      generalize a.eval (.tmp 194) = tv' at *
      obtain ⟨sa, sl, sc, rfl⟩ := h1.shape
      exact ⟨V.setCell ⟨q, 2, none⟩ (.slice sa sl sc), by clear hA h1 hgr hlow; go_simp, ⟨V, _, hA, rfl⟩⟩
  case hf =>
    intro l a V hp hall
    obtain ⟨V', v, ⟨h1, V0, hV0, hgr⟩, hV⟩ := hp.j.2.1 (hall 10 (by decide))
    exact hQ a V V' v hp.nt hp.df (fun t ht => hp.keep t (dstIn (by kernel_rfl) ht)) h1 (below_grown (hV0.mono (unhide HSZ)) hgr (by have := hV0.size; have := unhide HSZ; omega) (unhide HTV).row) hV
end Go.Proofs.YtaamibonpmijaaaGreat
