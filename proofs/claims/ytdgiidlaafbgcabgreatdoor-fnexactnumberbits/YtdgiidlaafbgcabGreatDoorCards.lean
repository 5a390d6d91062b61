/-
  DERIVED. GIVEN WITH THE SEED: THE CARDS: each row of YtdgiidlaafbgcabGreatDoorRows.lean that lists a variable, with what it lists TIED to the program's text (the seventh form; the later family's looks); each row that meets fmt, with fmt's text TOLD by the authors' own Lean function (tested against real Go, not proved from fmt's source: count such statements apart). THE CARD IS WHAT COUNTS. Prove the row's statement (the work); the ties are given (YtdgiidlaafbgcabGreatDoorTie.lean); close each card by the builder's one call (the guide's Derived/Test/ToyasCard.lean, 'card_holds'). Laid BY PROGRAM, IN A SANDBOX (cutbox-door.mjs). By AI agents, Wed Nov 11 2026. No macro, syntax, notation, axiom, sorry.
-/
import Derived.Test.YtdgiidlaafbgcabGreatDoorRows
import GoSem.ClaimSeven
namespace Go.Proofs.YtdgiidlaafbgcabGreatDoor
namespace Rows

/-- THE TIED CARD OF 'laws.FnExactNumberBits'. -/
def fnExactNumberBitsCard : Claim7 := { stood := { row := fnExactNumberBitsRow, standIns := [], harness := (true, "2002af12253cf1224c2589cc9f870f568f3a92cdde1205220667163286602c0f"), looks := true }, kinds := [], alts := [], laidByText := true, laidKinds := [.data, .data, .data, .data, .sentinel, .sentinel, .pinned], laidTests := true, laidLooks := .later }
def FnExactNumberBitsCardSaid : Prop := Claim7.holds Tryz.pinned (.plain (OpenSpec.ofChange fnExactNumberBitsSpec)) fnExactNumberBitsCard

/-- THE SECOND FORM's CARD OF 'laws.FnExactNumberBits'. -/
def fnExactNumberBitsUptoCard : Claim7 := { stood := { row := fnExactNumberBitsUptoRow, standIns := [], harness := (true, "2002af12253cf1224c2589cc9f870f568f3a92cdde1205220667163286602c0f"), looks := true }, kinds := [], alts := [], laidByText := true, laidKinds := [.data, .data, .data, .data, .sentinel, .sentinel, .pinned], laidTests := true, laidLooks := .later }
def FnExactNumberBitsUptoCardSaid : Prop := Claim7.holds Tryz.pinned (.plain (OpenSpec.upto fnExactNumberBitsSpec)) fnExactNumberBitsUptoCard
end Rows
end Go.Proofs.YtdgiidlaafbgcabGreatDoor
