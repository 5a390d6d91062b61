/- The law FnExactPrintDesign returns true at every node, and writes nothing that was there: the program's PrintDesign answers as the specification's and leaves its argument as it was; the listed variables hold what the program's text lays. -/
import Derived.Test.YtddlokkejglckaaGreatDoorCards
import Derived.Test.YtddlokkejglckaaGreatDoorTie
import Derived.Test.YtddlokkejglckaaGreatDoorMNH11
import Derived.WalkKit
import Derived.ProofKit
import Derived.LaidMore
import Derived.Lay
import Derived.Below
import Derived.OpenShut
import Derived.ShutString
import Derived.ChangeVars
import Derived.ChangeSame
import Derived.Stop.Joined
import Derived.SevenTiedAt
namespace Go.Proofs.YtddlokkejglckaaGreatDoor.fnPr
open Go.ChangeShapes Go.WideShapes Go.ChangeAt Go.WideMaps Go.WideElems Go.RowKit Nt
set_option linter.unusedVariables false
theorem own : ownKnob Tryz.prog.godebug = none := by kernel_rfl
theorem laidOut : laidOutB Tryz.prog = true := by kernel_rfl
theorem gR : Tryz.prog.globalNamed "strconv.ErrRange" = some 3 := by kernel_rfl
theorem tR : (Tryz.prog.globals[3]?).map (·.type) = some 64 := by kernel_rfl
theorem gM : Tryz.prog.globalNamed "loop.example/g00031/impl.binaryOperators" = some 0 := by kernel_rfl
theorem tM : (Tryz.prog.globals[0]?).map (·.type) = some 95 := by kernel_rfl
theorem c9 : Tryz.prog.cellsOf 9 = 1 := by kernel_rfl
theorem c3 : Tryz.prog.cellsOf 3 = 1 := by kernel_rfl
theorem c94 : Tryz.prog.cellsOf 94 = 2 := by kernel_rfl
theorem c95 : Tryz.prog.cellsOf 95 = 40 := by kernel_rfl
theorem trod_if {P : Program} {W : World} {fuel : Nat} {t : TypeId} {ms : Array (String × TypeId)} {cs : List Value} {nm : String} {d : DataW Unit} {p : List MemPlace} (hu : P.underlying t = some (.interface ms))
   (h : DataW.trod (fun _ => ()) P W 0 (fun _ => true) false fuel t cs = some (.iface nm d, p)) : ∃ u v, cs = [.iface u v] := by
 cases fuel with
 | zero => simp [DataW.trod] at h
 | succ f =>
   unfold DataW.trod at h
   rw [hu] at h
   split at h <;> simp_all
def rowH {H : Type} (k : Nat) : DataW H := .agg [.lit (.string (binL.getD k [])), .lit (.int .i64 (grpL.getD k 0 : Nat))]
def tableH {H : Type} : DataW H := .agg ((List.range 20).map rowH)
theorem laid_is : (Rows.laid_loop_example_g00031_impl_binaryOperators : DataW Unit) = tableH := by kernel_rfl
set_option maxRecDepth 100000 in
theorem reads_table {H : Type} (enc : TypeId × Value → H) (W : World) (sp : Nat → Bool) : DataW.trod enc Tryz.prog W 0 sp true 4 95 opsV = some (tableH, []) := by kernel_rfl
theorem cells_of {W : World} {fuel : Nat} {cs : List Value} {q : List MemPlace} (h : DataW.trod (fun _ => ()) Tryz.prog W 0 (fun _ => true) false fuel 95 cs = some (Rows.laid_loop_example_g00031_impl_binaryOperators, q)) : cs = opsV := by
 rw [laid_is] at h
 obtain ⟨xs, m, _, ex, hcl, hl, hel⟩ := DataW.trod_array Tryz.underlying95 h
 rw [c95] at hcl
 have e3 : (xs.map (·.1)) = (List.range 20).map (rowH (H := Unit)) := (DataW.agg.inj (Prod.mk.inj ex).1).symm
 have key : ∀ i, i < 20 → cs[i * 2]? = some (.string (S (binL.getD i []))) ∧ cs[i * 2 + 1]? = some (.int .i64 (grpL.getD i 0 : Nat)) := by
   intro i hi
   have hE := hel i hi
   rw [c94, List.getElem?_eq_getElem (by omega)] at hE
   obtain ⟨y0, y1, n, hy, hlc, hs0, hs1⟩ := trod_struct2 Tryz.underlying94 hE
   have h2 : (xs.map (·.1))[i]? = ((List.range 20).map (rowH (H := Unit)))[i]? := by rw [e3]
   rw [List.getElem?_map, List.getElem?_map, List.getElem?_eq_getElem (by omega), List.getElem?_range hi, Option.map_some, Option.map_some, hy] at h2
   have h3 := DataW.agg.inj (Option.some.inj h2)
   have h4 : y0.1 = .lit (.string (binL.getD i [])) := by injection h3
   have h5 : y1.1 = .lit (.int .i64 (grpL.getD i 0 : Nat)) := by
     injection h3 with _ h6
     injection h6
   simp only at hs0 hs1
   rw [c9] at hs0
   rw [c3] at hs1
   obtain ⟨z, e1, e2, _⟩ := DataW.trod_string Tryz.underlying9 hs0
   obtain ⟨k, f1, f2, _⟩ := DataW.trod_int Tryz.underlying3 hs1
   have g1 : cs[i * 2]? = some (.string z) := by
     have : ((((cs.drop (i * 2)).take 2).drop 0).take 1)[0]? = some (.string z) := by rw [e1]; rfl
     rw [List.getElem?_take_of_lt (by omega), List.drop_zero, List.getElem?_take_of_lt (by omega), List.getElem?_drop, Nat.add_zero] at this
     exact this
   have g2 : cs[i * 2 + 1]? = some (.int .i64 k) := by
     have : ((((cs.drop (i * 2)).take 2).drop 1).take 1)[0]? = some (.int .i64 k) := by rw [f1]; rfl
     rw [List.getElem?_take_of_lt (by omega), List.getElem?_drop, List.getElem?_take_of_lt (by omega), List.getElem?_drop] at this
     exact this
   rw [e2] at h4
   rw [f2] at h5
   have h6 : z.data.toList = binL.getD i [] := by simpa using h4
   have h7 : k = (grpL.getD i 0 : Nat) := by simpa using h5
   have h8 : z = S (binL.getD i []) := by apply L_inj; rw [L_S, ← h6]; rfl
   exact ⟨by rw [g1, h8], by rw [g2, h7]⟩
 apply List.ext_getElem?
 intro j
 by_cases hj : j < 40
 · obtain ⟨i, hi, hji⟩ : ∃ i, i < 20 ∧ (j = i * 2 ∨ j = i * 2 + 1) := ⟨j / 2, by omega, by omega⟩
   have o := opsV_at i hi
   rw [List.getElem?_toArray, List.getElem?_toArray] at o
   rcases hji with rfl | rfl
   · rw [(key i hi).1, o.1]
   · rw [(key i hi).2, o.2]
 · rw [List.getElem?_eq_none (by omega), List.getElem?_eq_none (by rw [opsV_len]; omega)]
theorem of_laid {W : World} (h : laidMetH Tryz.prog Rows.fnExactPrintDesignRow.laid W) : Gd W ∧ W.var? Tryz.prog "loop.example/g00031/impl.binaryOperators" = some opsV.toArray := by
 rw [MakeChecks.laidMetH_plain _ _ _ (by kernel_rfl)] at h
 obtain ⟨ps, ⟨g0, t0, cs0, f0, p0, q0, hg0, ht0, hv0, hd0, ⟨g1, t1, cs1, f1, p1, q1, hg1, ht1, hv1, hd1, ⟨g2, t2, cs2, f2, p2, q2, hg2, ht2, hv2, hd2, ⟨g3, t3, cs3, f3, p3, q3, hg3, ht3, hv3, hd3, ⟨g4, t4, cs4, f4, p4, q4, hg4, ht4, hv4, hd4, ⟨g5, t5, cs5, f5, p5, q5, hg5, ht5, hv5, hd5, ⟨g6, t6, cs6, f6, p6, q6, hg6, ht6, hv6, hd6, _, _⟩, _⟩, _⟩, _⟩, _⟩, _⟩, _⟩, _, _⟩ := h
 obtain rfl := Option.some.inj (gR.symm.trans hg4)
 obtain rfl := Option.some.inj (tR.symm.trans ht4)
 obtain rfl := Option.some.inj (gM.symm.trans hg6)
 obtain rfl := Option.some.inj (tM.symm.trans ht6)
 obtain ⟨u, v, hcs⟩ := trod_if Tryz.underlying64 hd4
 have h1 := World.var?_cell hg4 hv4 0
 rw [Array.eq_one_of_toList hcs] at h1
 have h2 := cells_of hd6
 exact ⟨⟨u, v, by simpa using h1⟩, by rw [hv6, ← h2]⟩
theorem Ops_of {W : World} (h : W.var? Tryz.prog "loop.example/g00031/impl.binaryOperators" = some opsV.toArray) : Ops W := by
 intro j x hx
 have := World.var?_cell gM h j
 rw [Nat.zero_add]
 rw [List.getElem?_toArray, hx] at this
 exact this
theorem var?_below {P : Program} {B g : Nat} {W W' : World} {n : String} {cs : Array Value} (h : Below B W W') (hg : P.globalNamed n = some g) (hgB : g < B) (hv : W.var? P n = some cs) : W'.var? P n = some cs := by
 unfold World.var? at hv ⊢
 simp only [hg, Option.bind_some] at hv ⊢
 rw [h.block g hgB]
 exact hv
theorem law (n : Nd) (v : Value) (w : World) (ht : n.text.size ≤ maxLen) (hr : RdK w n.kids v) (hg : Gd w) (ho : Ops w) :
   CB 3 #[ndV n v] w (.bool true) := by
 by_cases hs : sz n ≤ 1048576
 · exact lPrint n v w ht hr hg ho hs
 · exact lPrintBig n v w ht hr hs
set_option maxRecDepth 100000 in
theorem lifted (os : Os) (started : os.Started) (H : Type) (enc : TypeId × Value → H) :
   ReturnsInHanded {} Tryz.checked os 3 .any (fun w args => (Rows.fnExactPrintDesignSpec.pre enc Tryz.prog Tryz.f3 Rows.fnExactPrintDesignRow.domain false w args ∧ laidMetH Tryz.prog Rows.fnExactPrintDesignRow.laid w) ∧ sizedMet enc Tryz.prog Tryz.f3 (OpenSpec.ofChange Rows.fnExactPrintDesignSpec) false w args)
     (Rows.fnExactPrintDesignSpec.post enc Tryz.prog Tryz.f3 false true false false) := by
 refine returnsInHanded_of_change_and (C := Tryz.checked) (X := fun w _ => laidMetH Tryz.prog Rows.fnExactPrintDesignRow.laid w) (fun _ _ _ hh h => h.of_heap hh) own started (by kernel_rfl) Tryz.func3
   (ChangeSpec.witness_shaped (enc := enc) (C := Tryz.checked) (os := os) (X := fun w _ => laidMetH Tryz.prog Rows.fnExactPrintDesignRow.laid w) false (World.laidAll Tryz.prog os Rows.fnExactPrintDesignRow.laid) #[.agg #[.int .i64 0, .string ByteArray.empty, .slice none 0 0]] 8 (World.laidAll_os _ _ _)
     (World.shaped_of_ZipB (by kernel_rfl) (by kernel_rfl)) (by kernel_rfl) (by kernel_rfl) (by kernel_rfl)
     (by rw [MakeChecks.laidMetH_plain _ _ _ (by kernel_rfl)]; exact laidMet_laidAll _ (by kernel_rfl) (by kernel_rfl))) ?_
 intro W base args ds gs before hval0 hW hc _ hL _
 have hval : ∀ (j : Nat) t v, Tryz.f3.params[j]? = some t → args[j]? = some v → Value.okWide Tryz.prog W .any base t v := hval0
 have hW' := hW
 obtain ⟨p, q, hA0, hV0, rfl, _, _⟩ := hW
 have hA : DataW.TrodAll enc Tryz.prog W 0 (fun _ => true) true Tryz.f3.params.toList args.toList ds p := hA0
 have hV : DataW.TrodVars enc Tryz.prog W (fun _ => true) ["loop.example/g00031/impl.binaryOperators"] gs q := hV0
 rw [Tryz.params3] at hA hval
 obtain ⟨v0, d0, rfl, rfl, h0⟩ := trodAll_one hA
 obtain ⟨g, t, cs, fuel, d, p', rfl, hg, ht, hvar, hd, rfl⟩ := trodVars_one hV
 obtain rfl := Option.some.inj (gM.symm.trans hg)
 obtain rfl := Option.some.inj (tM.symm.trans ht)
 obtain ⟨hGd, hLv⟩ := of_laid hL
 obtain rfl : cs = opsV.toArray := Option.some.inj (hvar.symm.trans hLv)
 obtain ⟨rfl, rfl⟩ := DataW.Trod.unique (v := .agg opsV.toArray) ⟨fuel, hd⟩ ⟨4, reads_table enc W _⟩
 have k0 := h0
 have lt0 : ∀ x ∈ p, x.block < W.heap.size := by obtain ⟨m, hm⟩ := k0; exact DataW.trod_lt m _ _ _ hm
 obtain ⟨xs, rfl, hxs⟩ := okWide_struct Tryz.underlying24 (hval 0 24 v0 rfl rfl)
 obtain ⟨n, v, hcs, hts, hrd⟩ : ∃ (n : Nd) (v : Value), xs.toList = [.int .i64 n.kind, .string n.text, v] ∧ n.text.size ≤ maxLen ∧ RdK W n.kids v := by
   obtain ⟨fuel', hf⟩ := h0
   exact open_node Tryz.underlying24 Tryz.underlying22 Tryz.underlying3 Tryz.underlying9 ⟨rfl, rfl⟩ ⟨rfl, rfl⟩ ⟨rfl, rfl⟩ (by kernel_rfl) (by kernel_rfl) (by kernel_rfl) (by kernel_rfl) fuel' _ _ hf
 obtain rfl : xs = #[.int .i64 n.kind, .string n.text, v] := by cases xs; simp_all
 clear hA0 hval0 hV0
 have hMk := Ops_of hvar
 have h0lt : 0 < W.heap.size := World.block_lt_of_cell? W _ (hMk 0 _ rfl)
 refine (law n v W hts hrd hGd hMk).mono fun e W' ⟨he, bel⟩ => ?_
 subst he
 have hv' : ∀ sp : Nat → Bool, DataW.TrodVars enc Tryz.prog W' sp ["loop.example/g00031/impl.binaryOperators"] [tableH] (MemPlace.row ⟨0, 0, none⟩ opsV.toArray.size ++ [] ++ []) := fun sp =>
   ⟨0, 95, opsV.toArray, 4, [], [], hg, ht, var?_below bel gM h0lt hvar, reads_table enc W' sp, rfl, rfl⟩
 exact ⟨_, rfl, _, _, _, [], _, _, hW', trodAll_mk1 (shut_bool Tryz.underlying4 _), (trodAll_cons_mk (Below.trod laidOut (by kernel_rfl) (of_decide_eq_true (by kernel_rfl)) k0 bel lt0) trodAll_mk0), hv' _, bel.frame _, fun h => by cases h⟩

theorem holds : Rows.FnExactPrintDesignSaid :=
 OpenClaim.holds_of_wide 3 Tryz.f3 rfl rfl rfl rfl rfl rfl rfl ⟨rfl, rfl, rfl, rfl, rfl⟩ rfl rfl rfl rfl rfl (by kernel_rfl) Tryz.func3 (by kernel_rfl)
   (of_decide_eq_true (by kernel_rfl)) (by unfold Func.isWrapper; first | (rw [if_pos (by decide +kernel)]; kernel_rfl) | (rw [if_neg (by decide +kernel)]; exact ⟨rfl, rfl⟩))
   (fun os started H enc _ => lifted os started H enc)
end Go.Proofs.YtddlokkejglckaaGreatDoor.fnPr
namespace Go.Proofs.YtddlokkejglckaaGreatDoor
open Go
theorem fnExactPrintDesign_card_holds : Rows.FnExactPrintDesignCardSaid :=
 Claim7.holds_tied_plain_at .later [] [.data, .data, .data, .data, .sentinel, .sentinel, .data, .pinned] true (true, "c1b3c1439aa2b37b6ddea1f05bb9dd8e1859f848e9f4fdd9c5f983413e8f0b11") true fnPr.holds (fun _ h => by cases h) (by kernel_rfl) (fun _ h => by cases h) fnExactPrintDesign_row_tie rfl ⟨rfl, rfl⟩ (by kernel_rfl) rfl
   (fun f fn hf hfn => by
     obtain rfl : f = 3 := Option.some.inj ((show Tryz.prog.funcNamed "loop.example/g00031/laws.FnExactPrintDesign" = some 3 by kernel_rfl).symm.trans hf) |>.symm
     obtain rfl : fn = Tryz.f3 := (Option.some.inj (Tryz.func3.symm.trans hfn)).symm
     exact ⟨by kernel_rfl, fun j t ht => by
       rw [Tryz.params3] at ht
       have hm : t ∈ [24] := by simpa using Array.mem_of_getElem? ht
       have hall : ([24].all fun u => !Tryz.prog.wantsStandIn u) = true := by kernel_rfl
       exact (show Tryz.prog.wantsStandIn t = false by simpa using List.all_eq_true.1 hall t hm)⟩)
   (by kernel_rfl)
#print axioms fnExactPrintDesign_card_holds
end Go.Proofs.YtddlokkejglckaaGreatDoor
