/- For every graph, literal and list of leaves: the program's TableOf answers as the specification's does, and what was handed in reads as it did; the listed variable holds what the program's text lays. -/
import Derived.Test.YtpkgcccbhfdaiaaDoorCards
import Derived.Test.YtpkgcccbhfdaiaaDoorTie
import Derived.Test.YtpkgcccbhfdaiaaDoorV2
import Derived.Test.YtpkgcccbhfdaiaaDoorDOa
import Derived.WalkKit
import Derived.ProofKit
import Derived.LaidMore
import Derived.Lay
import Derived.Below
import Derived.OpenShut
import Derived.ChangeOld
import Derived.ChangeSlices
import Derived.ChangeVars
import Derived.Stop.Joined
import Derived.SevenTiedAt
namespace Go.Proofs.YtpkgcccbhfdaiaaDoor.fnTb
open Go.ChangeShapes Go.WideShapes Go.ChangeAt Go.WideMaps Go.WideElems Go.RowKit Gs
set_option linter.unusedVariables false
theorem own : ownKnob Tryd.prog.godebug = none := by kernel_rfl
theorem laidOut : laidOutB Tryd.prog = true := by kernel_rfl
theorem gM : Tryd.prog.globalNamed "loop.example/g00031/impl.leafTables" = some 0 := by kernel_rfl
theorem tM : (Tryd.prog.globals[0]?).map (·.type) = some 96 := by kernel_rfl
theorem c3 : Tryd.prog.cellsOf 3 = 1 := by kernel_rfl
theorem c96 : Tryd.prog.cellsOf 96 = 4 := by kernel_rfl
/-- The leaves' tables. -/
def tabL : List Int := [43690, 52428, 61680, 65280]
def tabV : List Value := tabL.map fun z => .int .i64 z
theorem laid_is : (Rows.laid_loop_example_g00031_impl_leafTables : DataW Unit) = .agg (tabL.map fun z => .lit (.int .i64 z)) := by kernel_rfl
def tableH {H : Type} : DataW H := .agg (tabL.map fun z => .lit (.int .i64 z))
theorem tabL_len : tabL.length = 4 := by decide
set_option maxRecDepth 100000 in
theorem reads_table {H : Type} (enc : TypeId × Value → H) (W : World) (sp : Nat → Bool) : DataW.trod enc Tryd.prog W 0 sp true 3 96 tabV = some (tableH, []) := by kernel_rfl
theorem cells_of {W : World} {fuel : Nat} {cs : List Value} {q : List MemPlace} (h : DataW.trod (fun _ => ()) Tryd.prog W 0 (fun _ => true) false fuel 96 cs = some (Rows.laid_loop_example_g00031_impl_leafTables, q)) : cs = tabV := by
  rw [laid_is] at h
  obtain ⟨xs, m, _, ex, hcl, hl, hel⟩ := DataW.trod_array Tryd.underlying96 h
  rw [c96] at hcl
  have e3 : (xs.map (·.1)) = tabL.map fun m => (DataW.lit (.int .i64 m) : DataW Unit) := (DataW.agg.inj (Prod.mk.inj ex).1).symm
  have hml : tabV.length = 4 := by unfold tabV; rw [List.length_map, tabL_len]
  apply List.ext_getElem?
  intro i
  by_cases hi : i < 4
  · have hE := hel i hi
    rw [c3, Nat.mul_one, List.getElem?_eq_getElem (by omega)] at hE
    obtain ⟨z, e1, e2, _⟩ := DataW.trod_int Tryd.underlying3 hE
    have h1 : cs[i]? = some (.int .i64 z) := by
      have : ((cs.drop i).take 1)[0]? = some (.int .i64 z) := by rw [e1]; rfl
      rw [List.getElem?_take_of_lt (by omega), List.getElem?_drop, Nat.add_zero] at this
      exact this
    have h2 : (xs.map (·.1))[i]? = (tabL.map fun m => (DataW.lit (.int .i64 m) : DataW Unit))[i]? := by rw [e3]
    rw [List.getElem?_map, List.getElem?_map, List.getElem?_eq_getElem (by omega), List.getElem?_eq_getElem (by rw [tabL_len]; omega), Option.map_some, Option.map_some, e2] at h2
    have h3 : z = tabL[i]'(by rw [tabL_len]; omega) := by
      have := Option.some.inj h2
      simpa using this
    rw [h1, h3]
    unfold tabV
    rw [List.getElem?_map, List.getElem?_eq_getElem (by rw [tabL_len]; omega)]
    rfl
  · rw [List.getElem?_eq_none (by omega), List.getElem?_eq_none (by omega)]
theorem of_laid {W : World} (h : laidMetH Tryd.prog Rows.fnExactTableOfRow.laid W) : W.var? Tryd.prog "loop.example/g00031/impl.leafTables" = some tabV.toArray := by
  rw [MakeChecks.laidMetH_plain _ _ _ (by kernel_rfl)] at h
  obtain ⟨ps, ⟨g0, t0, cs0, f0, p0, q0, hg0, ht0, hv0, hd0, _⟩, _, _⟩ := h
  obtain rfl := Option.some.inj (gM.symm.trans hg0)
  obtain rfl := Option.some.inj (tM.symm.trans ht0)
  have := cells_of hd0
  rw [hv0, ← this]
theorem Gt_of {W : World} (h : W.var? Tryd.prog "loop.example/g00031/impl.leafTables" = some tabV.toArray) : Gt W := by
  intro j hj
  have := World.var?_cell gM h j
  rw [List.getElem?_toArray] at this
  match j, hj with
  | 0, _ => exact this
  | 1, _ => exact this
  | 2, _ => exact this
  | 3, _ => exact this
theorem var?_below {P : Program} {B g : Nat} {W W' : World} {n : String} {cs : Array Value} (h : Below B W W') (hg : P.globalNamed n = some g) (hgB : g < B) (hv : W.var? P n = some cs) : W'.var? P n = some cs := by
  unfold World.var? at hv ⊢
  simp only [hg, Option.bind_some] at hv ⊢
  rw [h.block g hgB]
  exact hv
theorem opensInt {H : Type} {enc : TypeId × Value → H} {w : World} : Opens enc Tryd.prog w 3 1 RInt := ⟨by kernel_rfl, fun fuel cs x h => by
  obtain ⟨z, y, _, _⟩ := DataW.trod_int Tryd.underlying3 h
  subst y
  exact ⟨rfl, z, rfl⟩⟩
set_option maxRecDepth 100000 in
theorem lifted (os : Os) (started : os.Started) (H : Type) (enc : TypeId × Value → H) :
    ReturnsInHanded {} Tryd.checked os 3 .any (fun w args => (Rows.fnExactTableOfSpec.pre enc Tryd.prog Tryd.f3 Rows.fnExactTableOfRow.domain false w args ∧ laidMetH Tryd.prog Rows.fnExactTableOfRow.laid w) ∧ sizedMet enc Tryd.prog Tryd.f3 (OpenSpec.ofChange Rows.fnExactTableOfSpec) false w args)
      (Rows.fnExactTableOfSpec.post enc Tryd.prog Tryd.f3 false true false false) := by
  refine returnsInHanded_of_change_and (C := Tryd.checked) (X := fun w _ => laidMetH Tryd.prog Rows.fnExactTableOfRow.laid w) (fun _ _ _ hh h => h.of_heap hh) own started (by kernel_rfl) Tryd.func3
    (ChangeSpec.witness_shaped (enc := enc) (C := Tryd.checked) (os := os) (X := fun w _ => laidMetH Tryd.prog Rows.fnExactTableOfRow.laid w) false (World.laidAll Tryd.prog os Rows.fnExactTableOfRow.laid) #[.agg #[.slice none 0 0, .slice none 0 0, .slice none 0 0, .slice none 0 0, .slice none 0 0, .slice none 0 0], .int .i64 0, .slice none 0 0] 8 (World.laidAll_os _ _ _)
      (World.shaped_of_ZipB (by kernel_rfl) (by kernel_rfl)) (by kernel_rfl) (by kernel_rfl) (by kernel_rfl)
      (by rw [MakeChecks.laidMetH_plain _ _ _ (by kernel_rfl)]; exact laidMet_laidAll _ (by kernel_rfl) (by kernel_rfl))) ?_
  intro W base args ds gs before hval0 hW hc _ hL _
  have hval : ∀ (j : Nat) t v, Tryd.f3.params[j]? = some t → args[j]? = some v → Value.okWide Tryd.prog W .any base t v := hval0
  have hW' := hW
  obtain ⟨p, q, hA0, hV0, rfl, _, _⟩ := hW
  have hA : DataW.TrodAll enc Tryd.prog W 0 (fun _ => true) true Tryd.f3.params.toList args.toList ds p := hA0
  have hV : DataW.TrodVars enc Tryd.prog W (fun _ => true) ["loop.example/g00031/impl.leafTables"] gs q := hV0
  rw [Tryd.params3] at hA hval
  obtain ⟨v0, vs0, d0, ds0, p0, q0, hargs, rfl, rfl, h0, r0⟩ := trodAll_cons hA
  obtain ⟨v1, vs1, d1, ds1, p1, q1, rfl, rfl, rfl, h1, r1⟩ := trodAll_cons r0
  obtain ⟨v2, vs2, d2, ds2, p2, q2, rfl, rfl, rfl, h2, r2⟩ := trodAll_cons r1
  obtain ⟨rfl, rfl, rfl⟩ := trodAll_nil r2
  obtain rfl : args = #[v0, v1, v2] := by cases args; simp_all
  obtain ⟨g, t, cs, fuel, d, p', rfl, hg, ht, hvar, hd, rfl⟩ := trodVars_one hV
  obtain rfl := Option.some.inj (gM.symm.trans hg)
  obtain rfl := Option.some.inj (tM.symm.trans ht)
  obtain rfl : cs = tabV.toArray := Option.some.inj (hvar.symm.trans (of_laid hL))
  obtain ⟨rfl, rfl⟩ := DataW.Trod.unique (v := .agg tabV.toArray) ⟨fuel, hd⟩ ⟨3, reads_table enc W _⟩
  have k0 := h0
  have k2 := h2
  have lt0 : ∀ x ∈ p0, x.block < W.heap.size := by obtain ⟨m, hm⟩ := k0; exact DataW.trod_lt m _ _ _ hm
  have lt2 : ∀ x ∈ p2, x.block < W.heap.size := by obtain ⟨m, hm⟩ := k2; exact DataW.trod_lt m _ _ _ hm
  obtain ⟨a1, rfl, rfl, rfl, w1⟩ := open_int Tryd.underlying3 (hval 1 3 v1 rfl rfl) h1
  obtain ⟨az, lz, cz, rfl⟩ := okWide_slice Tryd.underlying28 (hval 2 28 v2 rfl rfl)
  obtain ⟨zs, hz⟩ : ∃ zs : List Int, RS 1 RInt W 0 zs (.slice az lz cz) := by
    obtain ⟨fuel, hf⟩ := h2
    obtain ⟨zs, v, e, hr⟩ := opens_slice (enc := enc) Tryd.underlying28 (by decide) opensInt fuel [.slice az lz cz] _ hf
    obtain rfl : v = .slice az lz cz := by simpa using e.symm
    exact ⟨zs, hr⟩
  obtain ⟨xs, rfl, hxs⟩ := okWide_struct Tryd.underlying27 (hval 0 27 v0 rfl rfl)
  obtain ⟨n, hn⟩ : ∃ n : Aig, RAig W 0 n xs.toList := by
    obtain ⟨fuel, hf⟩ := h0
    exact (opensAig.2 fuel xs.toList _ hf).2
  clear hA0 hval0 hV0
  have hGt := Gt_of hvar
  have h0lt : 0 < W.heap.size := World.block_lt_of_cell? W _ (hGt 0 (by decide))
  refine (lTable n xs.toList a1 zs _ W hn hz hGt).mono fun e W' ⟨he, bel⟩ => ?_
  subst he
  have hv' : ∀ sp : Nat → Bool, DataW.TrodVars enc Tryd.prog W' sp ["loop.example/g00031/impl.leafTables"] [tableH] (MemPlace.row ⟨0, 0, none⟩ tabV.toArray.size ++ [] ++ []) := fun sp =>
    ⟨0, 96, tabV.toArray, 3, [], [], hg, ht, var?_below bel gM h0lt hvar, reads_table enc W' sp, rfl, rfl⟩
  exact ⟨_, rfl, _, _, _, [], _, _, hW', trodAll_mk1 (shut_bool Tryd.underlying4 _), (trodAll_cons_mk (Below.trod laidOut (by kernel_rfl) (of_decide_eq_true (by kernel_rfl)) k0 bel lt0) (trodAll_cons_mk (shut_int Tryd.underlying3 w1) (trodAll_cons_mk (Below.trod laidOut (by kernel_rfl) (of_decide_eq_true (by kernel_rfl)) k2 bel lt2) trodAll_mk0))), hv' _, bel.frame _, fun h => by cases h⟩

theorem holds : Rows.FnExactTableOfSaid :=
  OpenClaim.holds_of_wide 3 Tryd.f3 rfl rfl rfl rfl rfl rfl rfl ⟨rfl, rfl, rfl, rfl, rfl⟩ rfl rfl rfl rfl rfl (by kernel_rfl) Tryd.func3 (by kernel_rfl)
    (of_decide_eq_true (by kernel_rfl)) (by unfold Func.isWrapper; first | (rw [if_pos (by decide +kernel)]; kernel_rfl) | (rw [if_neg (by decide +kernel)]; exact ⟨rfl, rfl⟩))
    (fun os started H enc _ => lifted os started H enc)
end Go.Proofs.YtpkgcccbhfdaiaaDoor.fnTb
namespace Go.Proofs.YtpkgcccbhfdaiaaDoor
open Go
theorem fnExactTableOf_card_holds : Rows.FnExactTableOfCardSaid :=
  Claim7.holds_tied_plain_at .later [] [.data] true (true, "724bf0a39f0a763cd2a8854a7ba3d9109a25a607cafddbc2eec8b1a843e91caa") true fnTb.holds (fun _ h => by cases h) (by kernel_rfl) (fun _ h => by cases h) fnExactTableOf_row_tie rfl ⟨rfl, rfl⟩ (by kernel_rfl) rfl
    (fun f fn hf hfn => by
      obtain rfl : f = 3 := Option.some.inj ((show Tryd.prog.funcNamed "loop.example/g00031/laws.FnExactTableOf" = some 3 by kernel_rfl).symm.trans hf) |>.symm
      obtain rfl : fn = Tryd.f3 := (Option.some.inj (Tryd.func3.symm.trans hfn)).symm
      exact ⟨by kernel_rfl, fun j t ht => by
        rw [Tryd.params3] at ht
        have hm : t ∈ [27, 3, 28] := by simpa using Array.mem_of_getElem? ht
        have hall : ([27, 3, 28].all fun u => !Tryd.prog.wantsStandIn u) = true := by kernel_rfl
        exact (show Tryd.prog.wantsStandIn t = false by simpa using List.all_eq_true.1 hall t hm)⟩)
    (by kernel_rfl)
#print axioms fnExactTableOf_card_holds
end Go.Proofs.YtpkgcccbhfdaiaaDoor
