/-
  DERIVED. GIVEN WITH THE SEED: THE CARDS: each row of YtkmpjoiefcjbnaaDoorRows.lean that lists a variable, with what it lists TIED to the program's text (the seventh form; the later family's looks); each row that meets fmt, with fmt's text TOLD by the authors' own Lean function (tested against real Go, not proved from fmt's source: count such statements apart). THE CARD IS WHAT COUNTS. Prove the row's statement (the work); the ties are given (YtkmpjoiefcjbnaaDoorTie.lean); close each card by the builder's one call (the guide's Derived/Test/ToyasCard.lean, 'card_holds'). Laid BY PROGRAM, IN A SANDBOX (cutbox-door.mjs). By AI agents, Wed Nov 11 2026. No macro, syntax, notation, axiom, sorry.
-/
import Derived.Test.YtkmpjoiefcjbnaaDoorRows
import GoSem.ClaimSeven
namespace Go.Proofs.YtkmpjoiefcjbnaaDoor
namespace Rows

/-- THE TIED CARD OF 'laws.FnExactRetimable'. -/
def fnExactRetimableCard : Claim7 := { stood := { row := fnExactRetimableRow, standIns := [], harness := (true, "4b4659fabcac12740d0abc53a7377157d5db626ab627c92f2cf809d4e35b777a"), looks := false }, kinds := [], alts := [], laidByText := true, laidKinds := [.data], laidTests := true, laidLooks := .later }
def FnExactRetimableCardSaid : Prop := Claim7.holds Tryd.pinned (.plain (OpenSpec.ofChange fnExactRetimableSpec)) fnExactRetimableCard

/-- THE SECOND FORM's CARD OF 'laws.FnExactRetimable'. -/
def fnExactRetimableUptoCard : Claim7 := { stood := { row := fnExactRetimableUptoRow, standIns := [], harness := (true, "4b4659fabcac12740d0abc53a7377157d5db626ab627c92f2cf809d4e35b777a"), looks := false }, kinds := [], alts := [], laidByText := true, laidKinds := [.data], laidTests := true, laidLooks := .later }
def FnExactRetimableUptoCardSaid : Prop := Claim7.holds Tryd.pinned (.plain (OpenSpec.upto fnExactRetimableSpec)) fnExactRetimableUptoCard
end Rows
end Go.Proofs.YtkmpjoiefcjbnaaDoor
