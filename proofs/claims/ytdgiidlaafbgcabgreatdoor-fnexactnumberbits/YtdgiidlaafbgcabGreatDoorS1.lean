/- What the specification's BitsOK, l01Known, l01Fill and BitsOf answer. -/
import Derived.Test.YtdgiidlaafbgcabGreatDoorBase
namespace Go.Proofs.YtdgiidlaafbgcabGreatDoor
open Go.RowKit

end Go.Proofs.YtdgiidlaafbgcabGreatDoor
