/- Plain data: structures and how they are read out of cells. -/
import Derived.Test.YtdmmbhemmbgcpadBase
import Derived.Test.YtdmmbhemmbgcpadGS
namespace Go.Proofs.Ytdmmbhemmbgcpad
open Go.RowKit Gs
set_option linter.unusedVariables false
set_option maxRecDepth 100000
structure Chip where
  wide : Int
  high : Int
  tracks : Int
  pads : Int
def RChip : Rd Chip := fun W B x u => u = [.int .i64 x.wide, .int .i64 x.high, .int .i64 x.tracks, .int .i64 x.pads]
theorem RChip.keeps : Keeps RChip := by
  rintro W W' B x u h hu
  exact hu
theorem RChip.lowers : Lowers RChip := by
  rintro W B B' x u h hu
  exact hu
def szChip (x : Chip) : Nat := 0
end Go.Proofs.Ytdmmbhemmbgcpad
