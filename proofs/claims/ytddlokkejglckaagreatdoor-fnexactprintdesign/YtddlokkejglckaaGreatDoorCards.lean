/-
  DERIVED. GIVEN WITH THE SEED: THE CARDS: each row of YtddlokkejglckaaGreatDoorRows.lean that lists a variable, with what it lists TIED to the program's text (the seventh form; the later family's looks); each row that meets fmt, with fmt's text TOLD by the authors' own Lean function (tested against real Go, not proved from fmt's source: count such statements apart). THE CARD IS WHAT COUNTS. Prove the row's statement (the work); the ties are given (YtddlokkejglckaaGreatDoorTie.lean); close each card by the builder's one call (the guide's Derived/Test/ToyasCard.lean, 'card_holds'). Laid BY PROGRAM, IN A SANDBOX (cutbox-door.mjs). By AI agents, Wed Nov 11 2026. No macro, syntax, notation, axiom, sorry.
-/
import Derived.Test.YtddlokkejglckaaGreatDoorRows
import GoSem.ClaimSeven
namespace Go.Proofs.YtddlokkejglckaaGreatDoor
namespace Rows

/-- THE TIED CARD OF 'laws.FnExactPrintDesign'. -/
def fnExactPrintDesignCard : Claim7 := { stood := { row := fnExactPrintDesignRow, standIns := [], harness := (true, "c1b3c1439aa2b37b6ddea1f05bb9dd8e1859f848e9f4fdd9c5f983413e8f0b11"), looks := true }, kinds := [], alts := [], laidByText := true, laidKinds := [.data, .data, .data, .data, .sentinel, .sentinel, .data, .pinned], laidTests := true, laidLooks := .later }
def FnExactPrintDesignCardSaid : Prop := Claim7.holds Tryz.pinned (.plain (OpenSpec.ofChange fnExactPrintDesignSpec)) fnExactPrintDesignCard

/-- THE SECOND FORM's CARD OF 'laws.FnExactPrintDesign'. -/
def fnExactPrintDesignUptoCard : Claim7 := { stood := { row := fnExactPrintDesignUptoRow, standIns := [], harness := (true, "c1b3c1439aa2b37b6ddea1f05bb9dd8e1859f848e9f4fdd9c5f983413e8f0b11"), looks := true }, kinds := [], alts := [], laidByText := true, laidKinds := [.data, .data, .data, .data, .sentinel, .sentinel, .data, .pinned], laidTests := true, laidLooks := .later }
def FnExactPrintDesignUptoCardSaid : Prop := Claim7.holds Tryz.pinned (.plain (OpenSpec.upto fnExactPrintDesignSpec)) fnExactPrintDesignUptoCard
end Rows
end Go.Proofs.YtddlokkejglckaaGreatDoor
