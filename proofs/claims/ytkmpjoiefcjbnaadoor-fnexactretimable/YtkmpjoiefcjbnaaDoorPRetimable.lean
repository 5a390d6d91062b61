/- For every netlist: the program's Retimable answers as the specification's does, cell by cell; it writes into no argument and keeps nothing of one; its answer owns its memory, behind another call too; the listed variable holds what the program's text lays. -/
import Derived.Test.YtkmpjoiefcjbnaaDoorCards
import Derived.Test.YtkmpjoiefcjbnaaDoorTie
import Derived.Test.YtkmpjoiefcjbnaaDoorLWA
import Derived.Test.YtkmpjoiefcjbnaaDoorDO
import Derived.WalkKit
import Derived.ProofKit
import Derived.LaidMore
import Derived.Lay
import Derived.Below
import Derived.OpenShut
import Derived.ChangeOld
import Derived.ChangeSlices
import Derived.ChangeVars
import Derived.Stop.Joined
import Derived.SevenTiedAt
namespace Go.Proofs.YtkmpjoiefcjbnaaDoor.fnRt
open Go.ChangeShapes Go.WideShapes Go.ChangeAt Go.WideMaps Go.WideElems Go.RowKit Gs
set_option linter.unusedVariables false
theorem own : ownKnob Tryd.prog.godebug = none := by kernel_rfl
theorem laidOut : laidOutB Tryd.prog = true := by kernel_rfl
theorem gM : Tryd.prog.globalNamed "math/bits.deBruijn64tab" = some 0 := by kernel_rfl
theorem tM : (Tryd.prog.globals[0]?).map (·.type) = some 141 := by kernel_rfl
theorem c5 : Tryd.prog.cellsOf 5 = 1 := by kernel_rfl
theorem c141 : Tryd.prog.cellsOf 141 = 64 := by kernel_rfl
/-- The table's bytes. -/
def tabL : List Int := [0, 1, 56, 2, 57, 49, 28, 3, 61, 58, 42, 50, 38, 29, 17, 4, 62, 47, 59, 36, 45, 43, 51, 22, 53, 39, 33, 30, 24, 18, 12, 5, 63, 55, 48, 27, 60, 41, 37, 16, 46, 35, 44, 21, 52, 32, 23, 11, 54, 26, 40, 15, 34, 20, 31, 10, 25, 14, 19, 9, 13, 8, 7, 6]
def tabV : List Value := tabL.map fun z => .int .u8 z
theorem laid_is : (Rows.laid_math_bits_deBruijn64tab : DataW Unit) = .agg (tabL.map fun z => .lit (.int .u8 z)) := by kernel_rfl
def tableH {H : Type} : DataW H := .agg (tabL.map fun z => .lit (.int .u8 z))
theorem tabL_len : tabL.length = 64 := by decide
set_option maxRecDepth 100000 in
theorem reads_table {H : Type} (enc : TypeId × Value → H) (W : World) (sp : Nat → Bool) : DataW.trod enc Tryd.prog W 0 sp true 3 141 tabV = some (tableH, []) := by kernel_rfl
theorem cells_of {W : World} {fuel : Nat} {cs : List Value} {q : List MemPlace} (h : DataW.trod (fun _ => ()) Tryd.prog W 0 (fun _ => true) false fuel 141 cs = some (Rows.laid_math_bits_deBruijn64tab, q)) : cs = tabV := by
  rw [laid_is] at h
  obtain ⟨xs, m, _, ex, hcl, hl, hel⟩ := DataW.trod_array Tryd.underlying141 h
  rw [c141] at hcl
  have e3 : (xs.map (·.1)) = tabL.map fun m => (DataW.lit (.int .u8 m) : DataW Unit) := (DataW.agg.inj (Prod.mk.inj ex).1).symm
  have hml : tabV.length = 64 := by unfold tabV; rw [List.length_map, tabL_len]
  apply List.ext_getElem?
  intro i
  by_cases hi : i < 64
  · have hE := hel i hi
    rw [c5, Nat.mul_one, List.getElem?_eq_getElem (by omega)] at hE
    obtain ⟨z, e1, e2, _⟩ := DataW.trod_int Tryd.underlying5 hE
    have h1 : cs[i]? = some (.int .u8 z) := by
      have : ((cs.drop i).take 1)[0]? = some (.int .u8 z) := by rw [e1]; rfl
      rw [List.getElem?_take_of_lt (by omega), List.getElem?_drop, Nat.add_zero] at this
      exact this
    have h2 : (xs.map (·.1))[i]? = (tabL.map fun m => (DataW.lit (.int .u8 m) : DataW Unit))[i]? := by rw [e3]
    rw [List.getElem?_map, List.getElem?_map, List.getElem?_eq_getElem (by omega), List.getElem?_eq_getElem (by rw [tabL_len]; omega), Option.map_some, Option.map_some, e2] at h2
    have h3 : z = tabL[i]'(by rw [tabL_len]; omega) := by
      have := Option.some.inj h2
      simpa using this
    rw [h1, h3]
    unfold tabV
    rw [List.getElem?_map, List.getElem?_eq_getElem (by rw [tabL_len]; omega)]
    rfl
  · rw [List.getElem?_eq_none (by omega), List.getElem?_eq_none (by omega)]
theorem of_laid {W : World} (h : laidMetH Tryd.prog Rows.fnExactRetimableRow.laid W) : W.var? Tryd.prog "math/bits.deBruijn64tab" = some tabV.toArray := by
  rw [MakeChecks.laidMetH_plain _ _ _ (by kernel_rfl)] at h
  obtain ⟨ps, ⟨g0, t0, cs0, f0, p0, q0, hg0, ht0, hv0, hd0, _⟩, _, _⟩ := h
  obtain rfl := Option.some.inj (gM.symm.trans hg0)
  obtain rfl := Option.some.inj (tM.symm.trans ht0)
  have := cells_of hd0
  rw [hv0, ← this]
theorem tab_small : ∀ z ∈ tabL, 0 ≤ z ∧ z < 256 := by decide
theorem Tz_of {W : World} (h : W.var? Tryd.prog "math/bits.deBruijn64tab" = some tabV.toArray) : Tz W := by
  intro j hj
  have := World.var?_cell gM h j
  have hx : tabL[j]? = some (tabL[j]'(by rw [tabL_len]; omega)) := List.getElem?_eq_getElem (by rw [tabL_len]; omega)
  rw [List.getElem?_toArray] at this
  unfold tabV at this
  rw [List.getElem?_map, hx] at this
  obtain ⟨z0, z1⟩ := tab_small _ (List.mem_of_getElem? hx)
  exact ⟨_, this, z0, z1⟩
theorem var?_below {P : Program} {B g : Nat} {W W' : World} {n : String} {cs : Array Value} (h : Below B W W') (hg : P.globalNamed n = some g) (hgB : g < B) (hv : W.var? P n = some cs) : W'.var? P n = some cs := by
  unfold World.var? at hv ⊢
  simp only [hg, Option.bind_some] at hv ⊢
  rw [h.block g hgB]
  exact hv
set_option maxRecDepth 100000 in
theorem lifted (os : Os) (started : os.Started) (H : Type) (enc : TypeId × Value → H) :
    ReturnsInHanded {} Tryd.checked os 3 .any (fun w args => (Rows.fnExactRetimableSpec.pre enc Tryd.prog Tryd.f3 Rows.fnExactRetimableRow.domain false w args ∧ laidMetH Tryd.prog Rows.fnExactRetimableRow.laid w) ∧ sizedMet enc Tryd.prog Tryd.f3 (OpenSpec.ofChange Rows.fnExactRetimableSpec) false w args)
      (Rows.fnExactRetimableSpec.post enc Tryd.prog Tryd.f3 false true false false) := by
  refine returnsInHanded_of_change_and (C := Tryd.checked) (X := fun w _ => laidMetH Tryd.prog Rows.fnExactRetimableRow.laid w) (fun _ _ _ hh h => h.of_heap hh) own started (by kernel_rfl) Tryd.func3
    (ChangeSpec.witness_shaped (enc := enc) (C := Tryd.checked) (os := os) (X := fun w _ => laidMetH Tryd.prog Rows.fnExactRetimableRow.laid w) false (World.laidAll Tryd.prog os Rows.fnExactRetimableRow.laid) #[.agg #[.slice none 0 0, .slice none 0 0, .slice none 0 0, .slice none 0 0, .slice none 0 0, .slice none 0 0]] 8 (World.laidAll_os _ _ _)
      (World.shaped_of_ZipB (by kernel_rfl) (by kernel_rfl)) (by kernel_rfl) (by kernel_rfl) (by kernel_rfl)
      (by rw [MakeChecks.laidMetH_plain _ _ _ (by kernel_rfl)]; exact laidMet_laidAll _ (by kernel_rfl) (by kernel_rfl))) ?_
  intro W base args ds gs before hval0 hW hc _ hL _
  have hval : ∀ (j : Nat) t v, Tryd.f3.params[j]? = some t → args[j]? = some v → Value.okWide Tryd.prog W .any base t v := hval0
  have hW' := hW
  obtain ⟨p, q, hA0, hV0, rfl, _, _⟩ := hW
  have hA : DataW.TrodAll enc Tryd.prog W 0 (fun _ => true) true Tryd.f3.params.toList args.toList ds p := hA0
  rw [Tryd.params3] at hA hval
  obtain ⟨v0, vs0, d0, ds0, p0, q0, hargs, rfl, rfl, h0, r0⟩ := trodAll_cons hA
  obtain ⟨rfl, rfl, rfl⟩ := trodAll_nil r0
  obtain rfl : args = #[v0] := by cases args; simp_all
  obtain ⟨rfl, rfl⟩ := trodVars_none hV0
  have hvar := of_laid hL
  have k0 := h0
  have lt0 : ∀ x ∈ p0, x.block < W.heap.size := by obtain ⟨m, hm⟩ := k0; exact DataW.trod_lt m _ _ _ hm
  obtain ⟨xs, rfl, hxs⟩ := okWide_struct Tryd.underlying28 (hval 0 28 v0 rfl rfl)
  obtain ⟨n, hn⟩ : ∃ n : Net, RNet W 0 n xs.toList := by
    obtain ⟨fuel, hf⟩ := h0
    exact (opensNet.2 fuel xs.toList _ hf).2
  clear hA0 hval0
  have hTz := Tz_of hvar
  have h0lt : 0 < W.heap.size := by
    obtain ⟨z, hz, _⟩ := hTz 0 (by decide)
    exact World.block_lt_of_cell? W _ hz
  simp only [List.append_nil] at hW'
  refine (lRet n xs.toList W hn hTz).mono fun e W' ⟨he, bel⟩ => ?_
  subst he
  exact ⟨_, rfl, _, _, _, [], _, [], hW', trodAll_mk1 (shut_bool Tryd.underlying4 _), (trodAll_cons_mk (Below.trod laidOut (by kernel_rfl) (of_decide_eq_true (by kernel_rfl)) k0 bel lt0) trodAll_mk0), rfl, bel.frame _, fun h => by cases h⟩

theorem holds : Rows.FnExactRetimableSaid :=
  OpenClaim.holds_of_wide 3 Tryd.f3 rfl rfl rfl rfl rfl rfl rfl ⟨rfl, rfl, rfl, rfl, rfl⟩ rfl rfl rfl rfl rfl (by kernel_rfl) Tryd.func3 (by kernel_rfl)
    (of_decide_eq_true (by kernel_rfl)) (by unfold Func.isWrapper; first | (rw [if_pos (by decide +kernel)]; kernel_rfl) | (rw [if_neg (by decide +kernel)]; exact ⟨rfl, rfl⟩))
    (fun os started H enc _ => lifted os started H enc)
end Go.Proofs.YtkmpjoiefcjbnaaDoor.fnRt
namespace Go.Proofs.YtkmpjoiefcjbnaaDoor
open Go
theorem fnExactRetimable_card_holds : Rows.FnExactRetimableCardSaid :=
  Claim7.holds_tied_plain_at .later [] [.data] true (true, "4b4659fabcac12740d0abc53a7377157d5db626ab627c92f2cf809d4e35b777a") false fnRt.holds (fun _ h => by cases h) (by kernel_rfl) (fun _ h => by cases h) fnExactRetimable_row_tie rfl ⟨rfl, rfl⟩ (by kernel_rfl) rfl
    (fun f fn hf hfn => by
      obtain rfl : f = 3 := Option.some.inj ((show Tryd.prog.funcNamed "loop.example/g00031/laws.FnExactRetimable" = some 3 by kernel_rfl).symm.trans hf) |>.symm
      obtain rfl : fn = Tryd.f3 := (Option.some.inj (Tryd.func3.symm.trans hfn)).symm
      exact ⟨by kernel_rfl, fun j t ht => by
        rw [Tryd.params3] at ht
        have hm : t ∈ [28] := by simpa using Array.mem_of_getElem? ht
        have hall : ([28].all fun u => !Tryd.prog.wantsStandIn u) = true := by kernel_rfl
        exact (show Tryd.prog.wantsStandIn t = false by simpa using List.all_eq_true.1 hall t hm)⟩)
    (by kernel_rfl)
#print axioms fnExactRetimable_card_holds
end Go.Proofs.YtkmpjoiefcjbnaaDoor
