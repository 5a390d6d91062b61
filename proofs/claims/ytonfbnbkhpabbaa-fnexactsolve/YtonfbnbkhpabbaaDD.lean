/- Plain data: structures and how they are read out of cells. -/
import Derived.Test.YtonfbnbkhpabbaaBase
import Derived.Test.YtonfbnbkhpabbaaGS
namespace Go.Proofs.Ytonfbnbkhpabbaa
open Go.RowKit Gs
set_option linter.unusedVariables false
set_option maxRecDepth 100000
def RIntS : Rd (List Int) := RL 1 RInt
theorem RIntS.keeps : Keeps RIntS := RL.keeps RInt.keeps
theorem RIntS.lowers : Lowers RIntS := RL.lowers RInt.lowers
def szIntS (x : (List Int)) : Nat := szL (fun (_ : Int) => 0) x
end Go.Proofs.Ytonfbnbkhpabbaa
