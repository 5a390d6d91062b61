/-
  DERIVED. GIVEN WITH THE SEED: THE CARDS: each row of YtlldfaniddbjaaaGreatDoorRows.lean that lists a variable, with what it lists TIED to the program's text (the seventh form; the later family's looks); each row that meets fmt, with fmt's text TOLD by the authors' own Lean function (tested against real Go, not proved from fmt's source: count such statements apart). THE CARD IS WHAT COUNTS. Prove the row's statement (the work); the ties are given (YtlldfaniddbjaaaGreatDoorTie.lean); close each card by the builder's one call (the guide's Derived/Test/ToyasCard.lean, 'card_holds'). Laid BY PROGRAM, IN A SANDBOX (cutbox-door.mjs). By AI agents, Wed Nov 11 2026. No macro, syntax, notation, axiom, sorry.
-/
import Derived.Test.YtlldfaniddbjaaaGreatDoorRows
import GoSem.ClaimSeven
namespace Go.Proofs.YtlldfaniddbjaaaGreatDoor
namespace Rows

/-- THE TIED CARD OF 'laws.FnExactRouteOK'. -/
def fnExactRouteOKCard : Claim7 := { stood := { row := fnExactRouteOKRow, standIns := [], harness := (true, "3847be0c6955922f13b6424aeb3dca0d3755c1e4687da494452231165282e323"), looks := false }, kinds := [], alts := [], laidByText := true, laidKinds := [.data], laidTests := true, laidLooks := .later }
def FnExactRouteOKCardSaid : Prop := Claim7.holds Tryz.pinned (.plain (OpenSpec.ofChange fnExactRouteOKSpec)) fnExactRouteOKCard

/-- THE SECOND FORM's CARD OF 'laws.FnExactRouteOK'. -/
def fnExactRouteOKUptoCard : Claim7 := { stood := { row := fnExactRouteOKUptoRow, standIns := [], harness := (true, "3847be0c6955922f13b6424aeb3dca0d3755c1e4687da494452231165282e323"), looks := false }, kinds := [], alts := [], laidByText := true, laidKinds := [.data], laidTests := true, laidLooks := .later }
def FnExactRouteOKUptoCardSaid : Prop := Claim7.holds Tryz.pinned (.plain (OpenSpec.upto fnExactRouteOKSpec)) fnExactRouteOKUptoCard
end Rows
end Go.Proofs.YtlldfaniddbjaaaGreatDoor
