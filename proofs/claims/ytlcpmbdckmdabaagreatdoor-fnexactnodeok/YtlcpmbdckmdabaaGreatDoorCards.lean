/-
  DERIVED. GIVEN WITH THE SEED: THE CARDS: each row of YtlcpmbdckmdabaaGreatDoorRows.lean that lists a variable, with what it lists TIED to the program's text (the seventh form; the later family's looks); each row that meets fmt, with fmt's text TOLD by the authors' own Lean function (tested against real Go, not proved from fmt's source: count such statements apart). THE CARD IS WHAT COUNTS. Prove the row's statement (the work); the ties are given (YtlcpmbdckmdabaaGreatDoorTie.lean); close each card by the builder's one call (the guide's Derived/Test/ToyasCard.lean, 'card_holds'). Laid BY PROGRAM, IN A SANDBOX (cutbox-door.mjs). By AI agents, Wed Nov 11 2026. No macro, syntax, notation, axiom, sorry.
-/
import Derived.Test.YtlcpmbdckmdabaaGreatDoorRows
import GoSem.ClaimSeven
namespace Go.Proofs.YtlcpmbdckmdabaaGreatDoor
namespace Rows

/-- THE TIED CARD OF 'laws.FnExactNodeOK'. -/
def fnExactNodeOKCard : Claim7 := { stood := { row := fnExactNodeOKRow, standIns := [], harness := (true, "a8e664c784a32456099af1abadf225e89841f6fbb06f6f1ed28b9dec1becf9c1"), looks := true }, kinds := [], alts := [], laidByText := true, laidKinds := [.data, .data, .data, .data, .sentinel, .sentinel, .data, .pinned], laidTests := true, laidLooks := .later }
def FnExactNodeOKCardSaid : Prop := Claim7.holds Tryz.pinned (.plain (OpenSpec.ofChange fnExactNodeOKSpec)) fnExactNodeOKCard

/-- THE SECOND FORM's CARD OF 'laws.FnExactNodeOK'. -/
def fnExactNodeOKUptoCard : Claim7 := { stood := { row := fnExactNodeOKUptoRow, standIns := [], harness := (true, "a8e664c784a32456099af1abadf225e89841f6fbb06f6f1ed28b9dec1becf9c1"), looks := true }, kinds := [], alts := [], laidByText := true, laidKinds := [.data, .data, .data, .data, .sentinel, .sentinel, .data, .pinned], laidTests := true, laidLooks := .later }
def FnExactNodeOKUptoCardSaid : Prop := Claim7.holds Tryz.pinned (.plain (OpenSpec.upto fnExactNodeOKSpec)) fnExactNodeOKUptoCard
end Rows
end Go.Proofs.YtlcpmbdckmdabaaGreatDoor
