/- The law FnExactTokens returns true at every string, and writes nothing that was there: the program's Tokens answers as the specification's, each token's kind, text and place, the code and the place of a fault, and its answer owns its memory; the listed variables hold what the program's text lays. -/
import Derived.Test.YtdgiidlaafbgcaaDoorCards
import Derived.Test.YtdgiidlaafbgcaaDoorTie
import Derived.Test.YtdgiidlaafbgcaaDoorTL6
import Derived.WalkKit
import Derived.ProofKit
import Derived.LaidMore
import Derived.Lay
import Derived.Below
import Derived.OpenShut
import Derived.ShutString
import Derived.ChangeVars
import Derived.Stop.Joined
import Derived.SevenTiedAt
namespace Go.Proofs.YtdgiidlaafbgcaaDoor.fnTk
open Go.ChangeShapes Go.WideShapes Go.ChangeAt Go.WideMaps Go.WideElems Go.RowKit
open Go.ChangeMaps (open_string shut_string)
set_option linter.unusedVariables false
theorem own : ownKnob Tryd.prog.godebug = none := by kernel_rfl
theorem gM : Tryd.prog.globalNamed "loop.example/g00031/impl.marks" = some 0 := by kernel_rfl
theorem tM : (Tryd.prog.globals[0]?).map (·.type) = some 42 := by kernel_rfl
theorem c9 : Tryd.prog.cellsOf 9 = 1 := by kernel_rfl
theorem c42 : Tryd.prog.cellsOf 42 = 36 := by kernel_rfl
theorem laid_is : (Rows.laid_loop_example_g00031_impl_marks : DataW Unit) = .agg (Nb.marksL.map fun m => .lit (.string m)) := by kernel_rfl
/-- What the variable of the marks reads as. -/
def tableH {H : Type} : DataW H := .agg (Nb.marksL.map fun m => .lit (.string m))
set_option maxRecDepth 100000 in
theorem reads_table {H : Type} (enc : TypeId × Value → H) (W : World) (sp : Nat → Bool) : DataW.trod enc Tryd.prog W 0 sp true 3 42 mksV = some (tableH, []) := by kernel_rfl
theorem cells_of {W : World} {fuel : Nat} {cs : List Value} {q : List MemPlace} (h : DataW.trod (fun _ => ()) Tryd.prog W 0 (fun _ => true) false fuel 42 cs = some (Rows.laid_loop_example_g00031_impl_marks, q)) : cs = mksV := by
  rw [laid_is] at h
  obtain ⟨xs, m, _, ex, hcl, hl, hel⟩ := DataW.trod_array Tryd.underlying42 h
  rw [c42] at hcl
  have e3 : (xs.map (·.1)) = Nb.marksL.map fun m => (DataW.lit (.string m) : DataW Unit) := (DataW.agg.inj (Prod.mk.inj ex).1).symm
  have hml : mksV.length = 36 := by unfold mksV; rw [List.length_map, marksL_len]
  apply List.ext_getElem? 
  intro i
  by_cases hi : i < 36
  · have hE := hel i hi
    rw [c9, Nat.mul_one, List.getElem?_eq_getElem (by omega)] at hE
    obtain ⟨z, e1, e2, _⟩ := DataW.trod_string Tryd.underlying9 hE
    have h1 : cs[i]? = some (.string z) := by
      have : ((cs.drop i).take 1)[0]? = some (.string z) := by rw [e1]; rfl
      rw [List.getElem?_take_of_lt (by omega), List.getElem?_drop, Nat.add_zero] at this
      exact this
    have h2 : (xs.map (·.1))[i]? = (Nb.marksL.map fun m => (DataW.lit (.string m) : DataW Unit))[i]? := by rw [e3]
    rw [List.getElem?_map, List.getElem?_map, List.getElem?_eq_getElem (by omega), List.getElem?_eq_getElem (by rw [marksL_len]; omega), Option.map_some, Option.map_some, e2] at h2
    have h3 : z.data.toList = Nb.marksL[i]'(by rw [marksL_len]; omega) := by
      have := Option.some.inj h2
      simpa using this
    have h4 : z = S (Nb.marksL[i]'(by rw [marksL_len]; omega)) := by
      apply L_inj; rw [L_S, ← h3]; rfl
    rw [h1, h4]
    unfold mksV
    rw [List.getElem?_map, List.getElem?_eq_getElem (by rw [marksL_len]; omega)]
    rfl
  · rw [List.getElem?_eq_none (by omega), List.getElem?_eq_none (by omega)]
theorem of_laid {W : World} (h : laidMetH Tryd.prog Rows.fnExactTokensRow.laid W) : W.var? Tryd.prog "loop.example/g00031/impl.marks" = some mksV.toArray := by
  rw [MakeChecks.laidMetH_plain _ _ _ (by kernel_rfl)] at h
  obtain ⟨ps, ⟨g0, t0, cs0, f0, p0, q0, hg0, ht0, hv0, hd0, ⟨g1, t1, cs1, f1, p1, q1, hg1, ht1, hv1, hd1, _, _⟩, _⟩, _, _⟩ := h
  obtain rfl := Option.some.inj (gM.symm.trans hg1)
  obtain rfl := Option.some.inj (tM.symm.trans ht1)
  have := cells_of hd1
  rw [hv1, ← this]
theorem Mk_of {W : World} (h : W.var? Tryd.prog "loop.example/g00031/impl.marks" = some mksV.toArray) : Mk W := by
  intro j x hx
  have := World.var?_cell gM h j
  rw [Nat.zero_add]
  rw [List.getElem?_toArray, hx] at this
  exact this
theorem var?_below {P : Program} {B g : Nat} {W W' : World} {n : String} {cs : Array Value} (h : Below B W W') (hg : P.globalNamed n = some g) (hgB : g < B) (hv : W.var? P n = some cs) : W'.var? P n = some cs := by
  unfold World.var? at hv ⊢
  simp only [hg, Option.bind_some] at hv ⊢
  rw [h.block g hgB]
  exact hv
set_option maxRecDepth 100000 in
theorem lifted (os : Os) (started : os.Started) (H : Type) (enc : TypeId × Value → H) :
    ReturnsInHanded {} Tryd.checked os 3 .any (fun w args => (Rows.fnExactTokensSpec.pre enc Tryd.prog Tryd.f3 Rows.fnExactTokensRow.domain false w args ∧ laidMetH Tryd.prog Rows.fnExactTokensRow.laid w) ∧ sizedMet enc Tryd.prog Tryd.f3 (OpenSpec.ofChange Rows.fnExactTokensSpec) false w args)
      (Rows.fnExactTokensSpec.post enc Tryd.prog Tryd.f3 false true false false) := by
  refine returnsInHanded_of_change_and (C := Tryd.checked) (X := fun w _ => laidMetH Tryd.prog Rows.fnExactTokensRow.laid w) (fun _ _ _ hh h => h.of_heap hh) own started (by kernel_rfl) Tryd.func3
    (ChangeSpec.witness_shaped (enc := enc) (C := Tryd.checked) (os := os) (X := fun w _ => laidMetH Tryd.prog Rows.fnExactTokensRow.laid w) false (World.laidAll Tryd.prog os Rows.fnExactTokensRow.laid) #[.string ByteArray.empty] 8 (World.laidAll_os _ _ _)
      (World.shaped_of_ZipB (by kernel_rfl) (by kernel_rfl)) (by kernel_rfl) (by kernel_rfl) (by kernel_rfl)
      (by rw [MakeChecks.laidMetH_plain _ _ _ (by kernel_rfl)]; exact laidMet_laidAll _ (by kernel_rfl) (by kernel_rfl))) ?_
  intro W base args ds gs before hval0 hW hc _ hL _
  have hval : ∀ (j : Nat) t v, Tryd.f3.params[j]? = some t → args[j]? = some v → Value.okWide Tryd.prog W .any base t v := hval0
  have hW' := hW
  obtain ⟨p, q, hA0, hV0, rfl, _, _⟩ := hW
  have hA : DataW.TrodAll enc Tryd.prog W 0 (fun _ => true) true Tryd.f3.params.toList args.toList ds p := hA0
  have hV : DataW.TrodVars enc Tryd.prog W (fun _ => true) ["loop.example/g00031/impl.marks"] gs q := hV0
  rw [Tryd.params3] at hA hval
  obtain ⟨v0, d0, rfl, rfl, h0⟩ := trodAll_one hA
  obtain ⟨g, t, cs, fuel, d, p', rfl, hg, ht, hvar, hd, rfl⟩ := trodVars_one hV
  obtain rfl := Option.some.inj (gM.symm.trans hg)
  obtain rfl := Option.some.inj (tM.symm.trans ht)
  obtain rfl : cs = mksV.toArray := Option.some.inj (hvar.symm.trans (of_laid hL))
  obtain ⟨rfl, rfl⟩ := DataW.Trod.unique (v := .agg mksV.toArray) ⟨fuel, hd⟩ ⟨3, reads_table enc W _⟩
  obtain ⟨a0, rfl, rfl, rfl, w0⟩ := open_string Tryd.underlying9 (hval 0 9 v0 rfl rfl) h0
  clear hA0 hval0 hV0
  have hMk := Mk_of hvar
  have h0lt : 0 < W.heap.size := World.block_lt_of_cell? W _ (hMk 0 _ rfl)
  have fin : Calls Tryd.prog 3 #[.string a0] W fun e w' => e = .returned (.bool true) ∧ Below W.heap.size W w' := by
    by_cases hs : a0.size ≤ 1048576
    · exact lTokens a0 W hs hMk h0lt
    · exact lTokensLong a0 W w0 (by omega)
  refine fin.mono fun e W' ⟨he, bel⟩ => ?_
  subst he
  have hv' : ∀ sp : Nat → Bool, DataW.TrodVars enc Tryd.prog W' sp ["loop.example/g00031/impl.marks"] [tableH] (MemPlace.row ⟨0, 0, none⟩ mksV.toArray.size ++ [] ++ []) := fun sp =>
    ⟨0, 42, mksV.toArray, 3, [], [], hg, ht, var?_below bel gM h0lt hvar, reads_table enc W' sp, rfl, rfl⟩
  exact ⟨_, rfl, _, _, _, [], _, _, hW', trodAll_mk1 (shut_bool Tryd.underlying4 _), trodAll_cons_mk (shut_string Tryd.underlying9 w0) trodAll_mk0, hv' _, bel.frame _, fun h => by cases h⟩

theorem holds : Rows.FnExactTokensSaid :=
  OpenClaim.holds_of_wide 3 Tryd.f3 rfl rfl rfl rfl rfl rfl rfl ⟨rfl, rfl, rfl, rfl, rfl⟩ rfl rfl rfl rfl rfl (by kernel_rfl) Tryd.func3 (by kernel_rfl)
    (of_decide_eq_true (by kernel_rfl)) (by unfold Func.isWrapper; first | (rw [if_pos (by decide +kernel)]; kernel_rfl) | (rw [if_neg (by decide +kernel)]; exact ⟨rfl, rfl⟩))
    (fun os started H enc _ => lifted os started H enc)
end Go.Proofs.YtdgiidlaafbgcaaDoor.fnTk
namespace Go.Proofs.YtdgiidlaafbgcaaDoor
open Go
theorem fnExactTokens_card_holds : Rows.FnExactTokensCardSaid :=
  Claim7.holds_tied_plain_at .later [] [.data, .data, .pinned] true (true, "bb0a5406ce7848ea6be5e418095e5f8e16ae2166a01bd56528fd46ccf488ae33") false fnTk.holds (fun _ h => by cases h) (by kernel_rfl) (fun _ h => by cases h) fnExactTokens_row_tie rfl ⟨rfl, rfl⟩ (by kernel_rfl) rfl
    (fun f fn hf hfn => by
      obtain rfl : f = 3 := Option.some.inj ((show Tryd.prog.funcNamed "loop.example/g00031/laws.FnExactTokens" = some 3 by kernel_rfl).symm.trans hf) |>.symm
      obtain rfl : fn = Tryd.f3 := (Option.some.inj (Tryd.func3.symm.trans hfn)).symm
      exact ⟨by kernel_rfl, fun j t ht => by
        rw [Tryd.params3] at ht
        have hm : t ∈ [9] := by simpa using Array.mem_of_getElem? ht
        have hall : ([9].all fun u => !Tryd.prog.wantsStandIn u) = true := by kernel_rfl
        exact (show Tryd.prog.wantsStandIn t = false by simpa using List.all_eq_true.1 hall t hm)⟩)
    (by kernel_rfl)
#print axioms fnExactTokens_card_holds
end Go.Proofs.YtdgiidlaafbgcaaDoor
