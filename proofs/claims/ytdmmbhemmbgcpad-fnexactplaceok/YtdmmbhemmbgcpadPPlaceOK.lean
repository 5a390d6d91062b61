/- For every packed design, chip and list of tiles: the program's PlaceOK answers as the specification's does, and what was handed in reads as it did. No condition. -/
import Derived.Test.YtdmmbhemmbgcpadRows
import Derived.Test.YtdmmbhemmbgcpadLP
import Derived.Test.YtdmmbhemmbgcpadDO
import Derived.Test.YtdmmbhemmbgcpadDC2
import Derived.WalkKit
import Derived.ProofKit
import Derived.OpenShut
import Derived.ChangeOld
import Derived.ChangeSlices
import Derived.Below
namespace Go.Proofs.Ytdmmbhemmbgcpad.fnExactPlaceOK
open Go.ChangeShapes Go.WideShapes Go.ChangeAt Go.RowKit Gs
set_option linter.unusedVariables false

theorem own : ownKnob Try.prog.godebug = none := by kernel_rfl
theorem laidOut : laidOutB Try.prog = true := by kernel_rfl

set_option maxRecDepth 100000 in
theorem lifted (os : Os) (started : os.Started) (H : Type) (enc : TypeId × Value → H) :
    ReturnsInHanded {} Try.checked os 3 .any (Rows.fnExactPlaceOKSpec.pre6 enc Try.prog Try.f3 Rows.fnExactPlaceOKRow.domain false) (Rows.fnExactPlaceOKSpec.post enc Try.prog Try.f3 false true false false) := by
  refine returnsInHanded_of_change (C := Try.checked) own started (by kernel_rfl) Try.func3
    (ChangeSpec.witness6 (enc := enc) (C := Try.checked) false ⟨#[], #[.agg #[.slice none 0 0, .slice none 0 0, .slice none 0 0, .slice none 0 0, .slice none 0 0], .agg #[.int .i64 0, .int .i64 0, .int .i64 0, .int .i64 0], .slice none 0 0], []⟩ 8 (by kernel_rfl) (by kernel_rfl) (by kernel_rfl) (by kernel_rfl)) ?_
  intro W base args ds gs before hval0 hW hcnd _
  have hval : ∀ (j : Nat) t v, Try.f3.params[j]? = some t → args[j]? = some v → Value.okWide Try.prog W .any base t v := hval0
  have hW' := hW
  obtain ⟨p, q, hA0, hV, rfl, hfz, hnd⟩ := hW
  have hA : DataW.TrodAll enc Try.prog W 0 (fun _ => true) true Try.f3.params.toList args.toList ds p := hA0
  rw [Try.params3] at hA hval
  obtain ⟨v0, vs0, d0, ds0, p0, q0, hargs, rfl, rfl, h0, r0⟩ := trodAll_cons hA
  obtain ⟨v1, vs1, d1, ds1, p1, q1, rfl, rfl, rfl, h1, r1⟩ := trodAll_cons r0
  obtain ⟨v2, vs2, d2, ds2, p2, q2, rfl, rfl, rfl, h2, r2⟩ := trodAll_cons r1
  obtain ⟨rfl, rfl, rfl⟩ := trodAll_nil r2
  obtain rfl : args = #[v0, v1, v2] := by cases args; simp_all
  obtain ⟨rfl, rfl⟩ := trodVars_none hV
  have k0 := h0
  have k1 := h1
  have k2 := h2
  have lt0 : ∀ x ∈ p0, x.block < W.heap.size := by obtain ⟨m, hm⟩ := k0; exact DataW.trod_lt m _ _ _ hm
  have lt1 : ∀ x ∈ p1, x.block < W.heap.size := by obtain ⟨m, hm⟩ := k1; exact DataW.trod_lt m _ _ _ hm
  have lt2 : ∀ x ∈ p2, x.block < W.heap.size := by obtain ⟨m, hm⟩ := k2; exact DataW.trod_lt m _ _ _ hm
  obtain ⟨xs, rfl, hxs⟩ := okWide_struct Try.underlying26 (hval 0 26 v0 rfl rfl)
  obtain ⟨zs, rfl, hzs⟩ := okWide_struct Try.underlying28 (hval 1 28 v1 rfl rfl)
  obtain ⟨az, lz, cz, rfl⟩ := okWide_slice Try.underlying29 (hval 2 29 v2 rfl rfl)
  obtain ⟨n, hn⟩ : ∃ n : Packed, RPacked W 0 n xs.toList := by
    obtain ⟨fuel, hf⟩ := h0
    exact (opensPacked.2 fuel xs.toList _ hf).2
  obtain ⟨c, hc⟩ : ∃ c : Chip, RChip W 0 c zs.toList := by
    obtain ⟨fuel, hf⟩ := h1
    exact (opensChip.2 fuel zs.toList _ hf).2
  obtain ⟨ts, ht⟩ : ∃ ts : List Int, RS 1 RInt W 0 ts (.slice az lz cz) := by
    obtain ⟨fuel, hf⟩ := h2
    obtain ⟨ts, v, e, hr⟩ := opens_slice (enc := enc) Try.underlying29 (by decide) (opens_int Try.underlying3 (by kernel_rfl)) fuel [.slice az lz cz] _ hf
    obtain rfl : v = .slice az lz cz := by simpa using e.symm
    exact ⟨ts, hr⟩
  have hc' : zs.toList = [.int .i64 c.wide, .int .i64 c.high, .int .i64 c.tracks, .int .i64 c.pads] := hc
  have hze : zs = #[.int .i64 c.wide, .int .i64 c.high, .int .i64 c.tracks, .int .i64 c.pads] := by cases zs; simp at hc'; rw [hc']
  clear hA0 hval0
  simp only [List.append_nil] at hW'
  rw [hze] at k1 hW' ⊢
  refine (lPlaceOK n xs.toList c ts _ W hn ht).mono fun e W' ⟨he, bel⟩ => ?_
  subst he
  exact ⟨_, rfl, _, _, _, [], _, [], hW', trodAll_mk1 (shut_bool Try.underlying4 _), (trodAll_cons_mk (Below.trod laidOut (by kernel_rfl) (of_decide_eq_true (by kernel_rfl)) k0 bel lt0) (trodAll_cons_mk (Below.trod laidOut (by kernel_rfl) (of_decide_eq_true (by kernel_rfl)) k1 bel lt1) (trodAll_cons_mk (Below.trod laidOut (by kernel_rfl) (of_decide_eq_true (by kernel_rfl)) k2 bel lt2) trodAll_mk0))), rfl, bel.frame _, fun h => by cases h⟩

theorem over : Rows.fnExactPlaceOKRow.holds Try.pinned (OpenSpec.ofChange Rows.fnExactPlaceOKSpec) :=
  OpenClaim.holds_of_wide 3 Try.f3 rfl rfl rfl rfl rfl rfl rfl ⟨rfl, rfl, rfl, rfl, rfl⟩ rfl rfl rfl rfl rfl (by kernel_rfl) Try.func3 (by kernel_rfl)
    (of_decide_eq_true (by kernel_rfl)) (by unfold Func.isWrapper; first | (rw [if_pos (by decide +kernel)]; kernel_rfl) | (rw [if_neg (by decide +kernel)]; exact ⟨rfl, rfl⟩))
    (fun os started H enc _ => lifted os started H enc)
end Go.Proofs.Ytdmmbhemmbgcpad.fnExactPlaceOK
namespace Go.Proofs.Ytdmmbhemmbgcpad
theorem fnExactPlaceOK_holds : Rows.FnExactPlaceOKSaid := fnExactPlaceOK.over
#print axioms fnExactPlaceOK_holds
end Go.Proofs.Ytdmmbhemmbgcpad
