/- The specification's shape: kids that are constants of 0s. -/
import Derived.Test.YtkmpjoiefcjbnaaDoorM6
import Derived.Test.YtkmpjoiefcjbnaaDoorLC
import Derived.Test.YtkmpjoiefcjbnaaDoorSF
import Derived.Test.YtkmpjoiefcjbnaaDoorS1
import Derived.BigQuiet
namespace Go.Proofs.YtkmpjoiefcjbnaaDoor
open Go.RowKit Gs
set_option linter.unusedVariables false
/-- A kid: a constant of 0s. -/
def RKz : Rd Int := fun W B x u => u = [.int .i64 29, .int .i64 x, .int .i64 0, .bool false, .string (S (List.replicate x.toNat 48)), .slice none 0 0]
theorem RKz.keeps : Keeps RKz := fun _ _ _ _ _ _ h => h
theorem RKz.lowers : Lowers RKz := fun _ _ _ _ _ _ h => h
theorem kzs_open {xs : List Int} {v : Value} {w : World} (hr : RS 6 RKz w 0 xs v) : ∃ a c, v = .slice a xs.length c ∧ ∀ j x, xs[j]? = some x → ∃ b o, a = some ⟨b, o, none⟩ ∧ w.cell? ⟨b, o + j * 6 + 1, none⟩ = some (.int .i64 x) ∧ xs.length ≤ c := by
  rcases hr.open with ⟨rfl, a, c, rfl⟩ | ⟨b, o, c, rfl, hc, hn, _, hcs⟩
  · exact ⟨a, c, rfl, fun j x h => by simp at h⟩
  · refine ⟨_, c, rfl, fun j x h => ⟨b, o, rfl, ?_, hc⟩⟩
    obtain ⟨u, hul, hat, hrx⟩ := hcs j x h
    unfold RKz at hrx
    subst hrx
    exact hat.get (j := 1) rfl
end Go.Proofs.YtkmpjoiefcjbnaaDoor
