/- For every packed design and every list of steps: the program's PackRun answers as the specification's does, and what was handed in reads as it did. No condition. -/
import Derived.Test.YtdmmbhemmbgcpabGreatRows
import Derived.Test.YtdmmbhemmbgcpabGreatLR
import Derived.Test.YtdmmbhemmbgcpabGreatGDO
import Derived.WalkKit
import Derived.ProofKit
import Derived.OpenShut
import Derived.ChangeOld
import Derived.ChangeSlices
import Derived.Below
namespace Go.Proofs.YtdmmbhemmbgcpabGreat.fnExactPackRun
open Go.ChangeShapes Go.WideShapes Go.ChangeAt Go.RowKit Gs
set_option linter.unusedVariables false

theorem own : ownKnob Tryz.prog.godebug = none := by kernel_rfl
theorem laidOut : laidOutB Tryz.prog = true := by kernel_rfl

set_option maxRecDepth 100000 in
theorem lifted (os : Os) (started : os.Started) (H : Type) (enc : TypeId × Value → H) :
    ReturnsInHanded {} Tryz.checked os 3 .any (Rows.fnExactPackRunSpec.pre6 enc Tryz.prog Tryz.f3 Rows.fnExactPackRunRow.domain false) (Rows.fnExactPackRunSpec.post enc Tryz.prog Tryz.f3 false true false false) := by
  refine returnsInHanded_of_change (C := Tryz.checked) own started (by kernel_rfl) Tryz.func3
    (ChangeSpec.witness6 (enc := enc) (C := Tryz.checked) false ⟨#[], #[.agg #[.slice none 0 0, .slice none 0 0, .slice none 0 0, .slice none 0 0, .slice none 0 0], .slice none 0 0], []⟩ 8 (by kernel_rfl) (by kernel_rfl) (by kernel_rfl) (by kernel_rfl)) ?_
  intro W base args ds gs before hval0 hW hcnd _
  have hval : ∀ (j : Nat) t v, Tryz.f3.params[j]? = some t → args[j]? = some v → Value.okWide Tryz.prog W .any base t v := hval0
  have hW' := hW
  obtain ⟨p, q, hA0, hV, rfl, hfz, hnd⟩ := hW
  have hA : DataW.TrodAll enc Tryz.prog W 0 (fun _ => true) true Tryz.f3.params.toList args.toList ds p := hA0
  rw [Tryz.params3] at hA hval
  obtain ⟨v0, vs0, d0, ds0, p0, q0, hargs, rfl, rfl, h0, r0⟩ := trodAll_cons hA
  obtain ⟨v1, vs1, d1, ds1, p1, q1, rfl, rfl, rfl, h1, r1⟩ := trodAll_cons r0
  obtain ⟨rfl, rfl, rfl⟩ := trodAll_nil r1
  obtain rfl : args = #[v0, v1] := by cases args; simp_all
  obtain ⟨rfl, rfl⟩ := trodVars_none hV
  have k0 := h0
  have k1 := h1
  have lt0 : ∀ x ∈ p0, x.block < W.heap.size := by obtain ⟨m, hm⟩ := k0; exact DataW.trod_lt m _ _ _ hm
  have lt1 : ∀ x ∈ p1, x.block < W.heap.size := by obtain ⟨m, hm⟩ := k1; exact DataW.trod_lt m _ _ _ hm
  obtain ⟨az, lz, cz, rfl⟩ := okWide_slice Tryz.underlying27 (hval 1 27 v1 rfl rfl)
  obtain ⟨zs, hz⟩ : ∃ zs : List Step, RS 2 RStep W 0 zs (.slice az lz cz) := by
    obtain ⟨fuel, hf⟩ := h1
    have : Inhabited Step := ⟨⟨[], []⟩⟩
    obtain ⟨zs, v, e, hr⟩ := opens_slice (enc := enc) Tryz.underlying27 (by decide) opensStep fuel [.slice az lz cz] _ hf
    obtain rfl : v = .slice az lz cz := by simpa using e.symm
    exact ⟨zs, hr⟩
  obtain ⟨xs, rfl, hxs⟩ := okWide_struct Tryz.underlying26 (hval 0 26 v0 rfl rfl)
  obtain ⟨n, hn⟩ : ∃ n : Packed, RPacked W 0 n xs.toList := by
    obtain ⟨fuel, hf⟩ := h0
    exact (opensPacked.2 fuel xs.toList _ hf).2
  clear hA0 hval0
  simp only [List.append_nil] at hW'
  refine (lPackRun n xs.toList zs _ W hn hz).mono fun e W' ⟨he, bel⟩ => ?_
  subst he
  exact ⟨_, rfl, _, _, _, [], _, [], hW', trodAll_mk1 (shut_bool Tryz.underlying4 _), (trodAll_cons_mk (Below.trod laidOut (by kernel_rfl) (of_decide_eq_true (by kernel_rfl)) k0 bel lt0) (trodAll_cons_mk (Below.trod laidOut (by kernel_rfl) (of_decide_eq_true (by kernel_rfl)) k1 bel lt1) trodAll_mk0)), rfl, bel.frame _, fun h => by cases h⟩

theorem over : Rows.fnExactPackRunRow.holds Tryz.pinned (OpenSpec.ofChange Rows.fnExactPackRunSpec) :=
  OpenClaim.holds_of_wide 3 Tryz.f3 rfl rfl rfl rfl rfl rfl rfl ⟨rfl, rfl, rfl, rfl, rfl⟩ rfl rfl rfl rfl rfl (by kernel_rfl) Tryz.func3 (by kernel_rfl)
    (of_decide_eq_true (by kernel_rfl)) (by unfold Func.isWrapper; first | (rw [if_pos (by decide +kernel)]; kernel_rfl) | (rw [if_neg (by decide +kernel)]; exact ⟨rfl, rfl⟩))
    (fun os started H enc _ => lifted os started H enc)
end Go.Proofs.YtdmmbhemmbgcpabGreat.fnExactPackRun
namespace Go.Proofs.YtdmmbhemmbgcpabGreat
theorem fnExactPackRun_holds : Rows.FnExactPackRunSaid := fnExactPackRun.over
#print axioms fnExactPackRun_holds
end Go.Proofs.YtdmmbhemmbgcpabGreat
