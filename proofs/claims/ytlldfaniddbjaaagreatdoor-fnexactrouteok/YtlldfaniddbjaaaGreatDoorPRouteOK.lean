/- For every packed design, chip, list of tiles and nets: the program's RouteOK answers as the specification's does, and what was handed in reads as it did; the listed variable holds what the program's text lays. -/
import Derived.Test.YtlldfaniddbjaaaGreatDoorCards
import Derived.Test.YtlldfaniddbjaaaGreatDoorTie
import Derived.Test.YtlldfaniddbjaaaGreatDoorRL
import Derived.Test.YtlldfaniddbjaaaGreatDoorGDC2
import Derived.WalkKit
import Derived.ProofKit
import Derived.LaidMore
import Derived.Lay
import Derived.Below
import Derived.OpenShut
import Derived.ChangeOld
import Derived.ChangeSlices
import Derived.ChangeVars
import Derived.ChangeSame
import Derived.Stop.Joined
import Derived.SevenTiedAt
namespace Go.Proofs.YtlldfaniddbjaaaGreatDoor.fnRo
open Go.ChangeShapes Go.WideShapes Go.ChangeAt Go.WideMaps Go.WideElems Go.RowKit Gs
set_option linter.unusedVariables false
theorem own : ownKnob Tryz.prog.godebug = none := by kernel_rfl
theorem laidOut : laidOutB Tryz.prog = true := by kernel_rfl
theorem gM : Tryz.prog.globalNamed "loop.example/g00031/impl.courses" = some 0 := by kernel_rfl
theorem tM : (Tryz.prog.globals[0]?).map (·.type) = some 149 := by kernel_rfl
theorem c3 : Tryz.prog.cellsOf 3 = 1 := by kernel_rfl
theorem c87 : Tryz.prog.cellsOf 87 = 2 := by kernel_rfl
theorem c149 : Tryz.prog.cellsOf 149 = 8 := by kernel_rfl
/-- The courses. -/
def crX : List Int := [1, 0, -1, 0]
def crY : List Int := [0, 1, 0, -1]
def crV : List Value := [.int .i64 1, .int .i64 0, .int .i64 0, .int .i64 1, .int .i64 (-1), .int .i64 0, .int .i64 0, .int .i64 (-1)]
def rowH {H : Type} (k : Nat) : DataW H := .agg [.lit (.int .i64 (crX.getD k 0)), .lit (.int .i64 (crY.getD k 0))]
def tableH {H : Type} : DataW H := .agg ((List.range 4).map rowH)
theorem laid_is : (Rows.laid_loop_example_g00031_impl_courses : DataW Unit) = tableH := by kernel_rfl
set_option maxRecDepth 100000 in
theorem reads_table {H : Type} (enc : TypeId × Value → H) (W : World) (sp : Nat → Bool) : DataW.trod enc Tryz.prog W 0 sp true 4 149 crV = some (tableH, []) := by kernel_rfl
theorem crV_at : ∀ i, i < 4 → crV[i * 2]? = some (.int .i64 (crX.getD i 0)) ∧ crV[i * 2 + 1]? = some (.int .i64 (crY.getD i 0)) := by
  intro i hi
  match i, hi with
  | 0, _ => exact ⟨rfl, rfl⟩
  | 1, _ => exact ⟨rfl, rfl⟩
  | 2, _ => exact ⟨rfl, rfl⟩
  | 3, _ => exact ⟨rfl, rfl⟩
theorem cells_of {W : World} {fuel : Nat} {cs : List Value} {q : List MemPlace} (h : DataW.trod (fun _ => ()) Tryz.prog W 0 (fun _ => true) false fuel 149 cs = some (Rows.laid_loop_example_g00031_impl_courses, q)) : cs = crV := by
  rw [laid_is] at h
  obtain ⟨xs, m, _, ex, hcl, hl, hel⟩ := DataW.trod_array Tryz.underlying149 h
  rw [c149] at hcl
  have e3 : (xs.map (·.1)) = (List.range 4).map (rowH (H := Unit)) := (DataW.agg.inj (Prod.mk.inj ex).1).symm
  have key : ∀ i, i < 4 → cs[i * 2]? = some (.int .i64 (crX.getD i 0)) ∧ cs[i * 2 + 1]? = some (.int .i64 (crY.getD i 0)) := by
    intro i hi
    have hE := hel i hi
    rw [c87, List.getElem?_eq_getElem (by omega)] at hE
    obtain ⟨y0, y1, n, hy, hlc, hs0, hs1⟩ := trod_struct2 Tryz.underlying87 hE
    have h2 : (xs.map (·.1))[i]? = ((List.range 4).map (rowH (H := Unit)))[i]? := by rw [e3]
    rw [List.getElem?_map, List.getElem?_map, List.getElem?_eq_getElem (by omega), List.getElem?_range hi, Option.map_some, Option.map_some, hy] at h2
    have h3 := DataW.agg.inj (Option.some.inj h2)
    have h4 : y0.1 = .lit (.int .i64 (crX.getD i 0)) := by injection h3
    have h5 : y1.1 = .lit (.int .i64 (crY.getD i 0)) := by
      injection h3 with _ h6
      injection h6
    simp only at hs0 hs1
    rw [c3] at hs0 hs1
    obtain ⟨z, e1, e2, _⟩ := DataW.trod_int Tryz.underlying3 hs0
    obtain ⟨k, f1, f2, _⟩ := DataW.trod_int Tryz.underlying3 hs1
    have g1 : cs[i * 2]? = some (.int .i64 z) := by
      have : ((((cs.drop (i * 2)).take 2).drop 0).take 1)[0]? = some (.int .i64 z) := by rw [e1]; rfl
      rw [List.getElem?_take_of_lt (by omega), List.drop_zero, List.getElem?_take_of_lt (by omega), List.getElem?_drop, Nat.add_zero] at this
      exact this
    have g2 : cs[i * 2 + 1]? = some (.int .i64 k) := by
      have : ((((cs.drop (i * 2)).take 2).drop 1).take 1)[0]? = some (.int .i64 k) := by rw [f1]; rfl
      rw [List.getElem?_take_of_lt (by omega), List.getElem?_drop, List.getElem?_take_of_lt (by omega), List.getElem?_drop] at this
      exact this
    rw [e2] at h4
    rw [f2] at h5
    have h6 : z = crX.getD i 0 := by simpa using h4
    have h7 : k = crY.getD i 0 := by simpa using h5
    exact ⟨by rw [g1, h6], by rw [g2, h7]⟩
  apply List.ext_getElem?
  intro j
  by_cases hj : j < 8
  · obtain ⟨i, hi, hji⟩ : ∃ i, i < 4 ∧ (j = i * 2 ∨ j = i * 2 + 1) := ⟨j / 2, by omega, by omega⟩
    have o := crV_at i hi
    rcases hji with rfl | rfl
    · rw [(key i hi).1, o.1]
    · rw [(key i hi).2, o.2]
  · rw [List.getElem?_eq_none (by omega), List.getElem?_eq_none (by show 8 ≤ j; omega)]
theorem of_laid {W : World} (h : laidMetH Tryz.prog Rows.fnExactRouteOKRow.laid W) : W.var? Tryz.prog "loop.example/g00031/impl.courses" = some crV.toArray := by
  rw [MakeChecks.laidMetH_plain _ _ _ (by kernel_rfl)] at h
  obtain ⟨ps, ⟨g0, t0, cs0, f0, p0, q0, hg0, ht0, hv0, hd0, _⟩, _, _⟩ := h
  obtain rfl := Option.some.inj (gM.symm.trans hg0)
  obtain rfl := Option.some.inj (tM.symm.trans ht0)
  have := cells_of hd0
  rw [hv0, ← this]
theorem Gc_of {W : World} (h : W.var? Tryz.prog "loop.example/g00031/impl.courses" = some crV.toArray) : Gc W := by
  have k := fun j => World.var?_cell gM h j
  exact ⟨(k 0).trans rfl, (k 1).trans rfl, (k 2).trans rfl, (k 3).trans rfl, (k 4).trans rfl, (k 5).trans rfl, (k 6).trans rfl, (k 7).trans rfl⟩
theorem var?_below {P : Program} {B g : Nat} {W W' : World} {n : String} {cs : Array Value} (h : Below B W W') (hg : P.globalNamed n = some g) (hgB : g < B) (hv : W.var? P n = some cs) : W'.var? P n = some cs := by
  unfold World.var? at hv ⊢
  simp only [hg, Option.bind_some] at hv ⊢
  rw [h.block g hgB]
  exact hv
set_option maxRecDepth 100000 in
theorem lifted (os : Os) (started : os.Started) (H : Type) (enc : TypeId × Value → H) :
    ReturnsInHanded {} Tryz.checked os 3 .any (fun w args => (Rows.fnExactRouteOKSpec.pre enc Tryz.prog Tryz.f3 Rows.fnExactRouteOKRow.domain false w args ∧ laidMetH Tryz.prog Rows.fnExactRouteOKRow.laid w) ∧ sizedMet enc Tryz.prog Tryz.f3 (OpenSpec.ofChange Rows.fnExactRouteOKSpec) false w args)
      (Rows.fnExactRouteOKSpec.post enc Tryz.prog Tryz.f3 false true false false) := by
  refine returnsInHanded_of_change_and (C := Tryz.checked) (X := fun w _ => laidMetH Tryz.prog Rows.fnExactRouteOKRow.laid w) (fun _ _ _ hh h => h.of_heap hh) own started (by kernel_rfl) Tryz.func3
    (ChangeSpec.witness_shaped (enc := enc) (C := Tryz.checked) (os := os) (X := fun w _ => laidMetH Tryz.prog Rows.fnExactRouteOKRow.laid w) false (World.laidAll Tryz.prog os Rows.fnExactRouteOKRow.laid) #[.agg #[.slice none 0 0, .slice none 0 0, .slice none 0 0, .slice none 0 0, .slice none 0 0], .agg #[.int .i64 0, .int .i64 0, .int .i64 0, .int .i64 0], .slice none 0 0, .slice none 0 0] 8 (World.laidAll_os _ _ _)
      (World.shaped_of_ZipB (by kernel_rfl) (by kernel_rfl)) (by kernel_rfl) (by kernel_rfl) (by kernel_rfl)
      (by rw [MakeChecks.laidMetH_plain _ _ _ (by kernel_rfl)]; exact laidMet_laidAll _ (by kernel_rfl) (by kernel_rfl))) ?_
  intro W base args ds gs before hval0 hW hc _ hL _
  have hval : ∀ (j : Nat) t v, Tryz.f3.params[j]? = some t → args[j]? = some v → Value.okWide Tryz.prog W .any base t v := hval0
  have hW' := hW
  obtain ⟨p, q, hA0, hV0, rfl, _, _⟩ := hW
  have hA : DataW.TrodAll enc Tryz.prog W 0 (fun _ => true) true Tryz.f3.params.toList args.toList ds p := hA0
  have hV : DataW.TrodVars enc Tryz.prog W (fun _ => true) ["loop.example/g00031/impl.courses"] gs q := hV0
  rw [Tryz.params3] at hA hval
  obtain ⟨v0, vs0, d0, ds0, p0, q0, hargs, rfl, rfl, h0, r0⟩ := trodAll_cons hA
  obtain ⟨v1, vs1, d1, ds1, p1, q1, rfl, rfl, rfl, h1, r1⟩ := trodAll_cons r0
  obtain ⟨v2, vs2, d2, ds2, p2, q2, rfl, rfl, rfl, h2, r2⟩ := trodAll_cons r1
  obtain ⟨v3, vs3, d3, ds3, p3, q3, rfl, rfl, rfl, h3, r3⟩ := trodAll_cons r2
  obtain ⟨rfl, rfl, rfl⟩ := trodAll_nil r3
  obtain rfl : args = #[v0, v1, v2, v3] := by cases args; simp_all
  obtain ⟨g, t, cs, fuel, d, p', rfl, hg, ht, hvar, hd, rfl⟩ := trodVars_one hV
  obtain rfl := Option.some.inj (gM.symm.trans hg)
  obtain rfl := Option.some.inj (tM.symm.trans ht)
  obtain rfl : cs = crV.toArray := Option.some.inj (hvar.symm.trans (of_laid hL))
  obtain ⟨rfl, rfl⟩ := DataW.Trod.unique (v := .agg crV.toArray) ⟨fuel, hd⟩ ⟨4, reads_table enc W _⟩
  have k0 := h0
  have k1 := h1
  have k2 := h2
  have k3 := h3
  have lt0 : ∀ x ∈ p0, x.block < W.heap.size := by obtain ⟨m, hm⟩ := k0; exact DataW.trod_lt m _ _ _ hm
  have lt1 : ∀ x ∈ p1, x.block < W.heap.size := by obtain ⟨m, hm⟩ := k1; exact DataW.trod_lt m _ _ _ hm
  have lt2 : ∀ x ∈ p2, x.block < W.heap.size := by obtain ⟨m, hm⟩ := k2; exact DataW.trod_lt m _ _ _ hm
  have lt3 : ∀ x ∈ p3, x.block < W.heap.size := by obtain ⟨m, hm⟩ := k3; exact DataW.trod_lt m _ _ _ hm
  obtain ⟨xs, rfl, hxs⟩ := okWide_struct Tryz.underlying26 (hval 0 26 v0 rfl rfl)
  obtain ⟨zs, rfl, hzs⟩ := okWide_struct Tryz.underlying28 (hval 1 28 v1 rfl rfl)
  obtain ⟨az, lz, cz, rfl⟩ := okWide_slice Tryz.underlying29 (hval 2 29 v2 rfl rfl)
  obtain ⟨aw, lw, cw, rfl⟩ := okWide_slice Tryz.underlying30 (hval 3 30 v3 rfl rfl)
  obtain ⟨n, hn⟩ : ∃ n : Packed, RPacked W 0 n xs.toList := by
    obtain ⟨fuel, hf⟩ := h0
    exact (opensPacked.2 fuel xs.toList _ hf).2
  obtain ⟨c, hch⟩ : ∃ c : Chip, RChip W 0 c zs.toList := by
    obtain ⟨fuel, hf⟩ := h1
    exact (opensChip.2 fuel zs.toList _ hf).2
  obtain ⟨ts, hts⟩ : ∃ ts : List Int, RS 1 RInt W 0 ts (.slice az lz cz) := by
    obtain ⟨fuel, hf⟩ := h2
    obtain ⟨ts, v, e, hr⟩ := opens_slice (enc := enc) Tryz.underlying29 (by decide) (opens_int Tryz.underlying3 (by kernel_rfl)) fuel [.slice az lz cz] _ hf
    obtain rfl : v = .slice az lz cz := by simpa using e.symm
    exact ⟨ts, hr⟩
  obtain ⟨ns, hns⟩ : ∃ ns : List (List Hop), RS 1 RHopS W 0 ns (.slice aw lw cw) := by
    obtain ⟨fuel, hf⟩ := h3
    obtain ⟨ns, v, e, hr⟩ := opens_slice (enc := enc) Tryz.underlying30 (by decide) opensHopS fuel [.slice aw lw cw] _ hf
    obtain rfl : v = .slice aw lw cw := by simpa using e.symm
    exact ⟨ns, hr⟩
  have hc' : zs.toList = [.int .i64 c.wide, .int .i64 c.high, .int .i64 c.tracks, .int .i64 c.pads] := hch
  have hze : zs = #[.int .i64 c.wide, .int .i64 c.high, .int .i64 c.tracks, .int .i64 c.pads] := by cases zs; simp at hc'; rw [hc']
  clear hA0 hval0 hV0
  have hGc := Gc_of hvar
  have h0lt : 0 < W.heap.size := World.block_lt_of_cell? W _ hGc.1
  rw [hze] at k1 hW' ⊢
  refine (lRouteOK n xs.toList c.wide c.high c.tracks c.pads ts _ ns _ W hn hts hns hGc).mono fun e W' ⟨he, bel⟩ => ?_
  subst he
  have hv' : ∀ sp : Nat → Bool, DataW.TrodVars enc Tryz.prog W' sp ["loop.example/g00031/impl.courses"] [tableH] (MemPlace.row ⟨0, 0, none⟩ crV.toArray.size ++ [] ++ []) := fun sp =>
    ⟨0, 149, crV.toArray, 4, [], [], hg, ht, var?_below bel gM h0lt hvar, reads_table enc W' sp, rfl, rfl⟩
  exact ⟨_, rfl, _, _, _, [], _, _, hW', trodAll_mk1 (shut_bool Tryz.underlying4 _), (trodAll_cons_mk (Below.trod laidOut (by kernel_rfl) (of_decide_eq_true (by kernel_rfl)) k0 bel lt0) (trodAll_cons_mk (Below.trod laidOut (by kernel_rfl) (of_decide_eq_true (by kernel_rfl)) k1 bel lt1) (trodAll_cons_mk (Below.trod laidOut (by kernel_rfl) (of_decide_eq_true (by kernel_rfl)) k2 bel lt2) (trodAll_cons_mk (Below.trod laidOut (by kernel_rfl) (of_decide_eq_true (by kernel_rfl)) k3 bel lt3) trodAll_mk0)))), hv' _, bel.frame _, fun h => by cases h⟩

theorem holds : Rows.FnExactRouteOKSaid :=
  OpenClaim.holds_of_wide 3 Tryz.f3 rfl rfl rfl rfl rfl rfl rfl ⟨rfl, rfl, rfl, rfl, rfl⟩ rfl rfl rfl rfl rfl (by kernel_rfl) Tryz.func3 (by kernel_rfl)
    (of_decide_eq_true (by kernel_rfl)) (by unfold Func.isWrapper; first | (rw [if_pos (by decide +kernel)]; kernel_rfl) | (rw [if_neg (by decide +kernel)]; exact ⟨rfl, rfl⟩))
    (fun os started H enc _ => lifted os started H enc)
end Go.Proofs.YtlldfaniddbjaaaGreatDoor.fnRo
namespace Go.Proofs.YtlldfaniddbjaaaGreatDoor
open Go
theorem fnExactRouteOK_card_holds : Rows.FnExactRouteOKCardSaid :=
  Claim7.holds_tied_plain_at .later [] [.data] true (true, "3847be0c6955922f13b6424aeb3dca0d3755c1e4687da494452231165282e323") false fnRo.holds (fun _ h => by cases h) (by kernel_rfl) (fun _ h => by cases h) fnExactRouteOK_row_tie rfl ⟨rfl, rfl⟩ (by kernel_rfl) rfl
    (fun f fn hf hfn => by
      obtain rfl : f = 3 := Option.some.inj ((show Tryz.prog.funcNamed "loop.example/g00031/laws.FnExactRouteOK" = some 3 by kernel_rfl).symm.trans hf) |>.symm
      obtain rfl : fn = Tryz.f3 := (Option.some.inj (Tryz.func3.symm.trans hfn)).symm
      exact ⟨by kernel_rfl, fun j t ht => by
        rw [Tryz.params3] at ht
        have hm : t ∈ [26, 28, 29, 30] := by simpa using Array.mem_of_getElem? ht
        have hall : ([26, 28, 29, 30].all fun u => !Tryz.prog.wantsStandIn u) = true := by kernel_rfl
        exact (show Tryz.prog.wantsStandIn t = false by simpa using List.all_eq_true.1 hall t hm)⟩)
    (by kernel_rfl)
#print axioms fnExactRouteOK_card_holds
end Go.Proofs.YtlldfaniddbjaaaGreatDoor
