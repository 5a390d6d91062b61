/- Plain data: structures and how they are read out of cells. -/
import Derived.Test.YtdmmbhemmbgcpadBase
import Derived.Test.YtdmmbhemmbgcpadGS
namespace Go.Proofs.Ytdmmbhemmbgcpad
open Go.RowKit Gs
set_option linter.unusedVariables false
set_option maxRecDepth 100000
structure Block where
  name : ByteArray
  inp : (List Int)
  table : Int
  reg : Bool
  init : Int
  clock : Int
def RBlock : Rd Block := fun W B x u => ∃ v1, u = [.string x.name, v1, .int .i64 x.table, .bool x.reg, .int .i64 x.init, .int .i64 x.clock] ∧ x.name.size ≤ maxLen ∧ RS 1 RInt W B x.inp v1
theorem RBlock.keeps : Keeps RBlock := by
  rintro W W' B x u h ⟨v1, hu, h0, h1⟩
  exact ⟨v1, hu, h0, h1.keep RInt.keeps h⟩
theorem RBlock.lowers : Lowers RBlock := by
  rintro W B B' x u h ⟨v1, hu, h0, h1⟩
  exact ⟨v1, hu, h0, h1.low RInt.lowers h⟩
def szBlock (x : Block) : Nat := x.name.size + szL (fun (_ : Int) => 0) x.inp
structure Port where
  name : ByteArray
  src : Int
def RPort : Rd Port := fun W B x u => u = [.string x.name, .int .i64 x.src] ∧ x.name.size ≤ maxLen
theorem RPort.keeps : Keeps RPort := by
  rintro W W' B x u h ⟨hu, h0⟩
  exact ⟨hu, h0⟩
theorem RPort.lowers : Lowers RPort := by
  rintro W B B' x u h ⟨hu, h0⟩
  exact ⟨hu, h0⟩
def szPort (x : Port) : Nat := x.name.size
structure Packed where
  ins : (List ByteArray)
  clocks : (List ByteArray)
  blocks : (List Block)
  outs : (List Port)
  checks : (List Port)
def RPacked : Rd Packed := fun W B x u => ∃ v0, ∃ v1, ∃ v2, ∃ v3, ∃ v4, u = [v0, v1, v2, v3, v4] ∧ RS 1 RStr W B x.ins v0 ∧ RS 1 RStr W B x.clocks v1 ∧ RS 6 RBlock W B x.blocks v2 ∧ RS 2 RPort W B x.outs v3 ∧ RS 2 RPort W B x.checks v4
theorem RPacked.keeps : Keeps RPacked := by
  rintro W W' B x u h ⟨v0, v1, v2, v3, v4, hu, h0, h1, h2, h3, h4⟩
  exact ⟨v0, v1, v2, v3, v4, hu, h0.keep RStr.keeps h, h1.keep RStr.keeps h, h2.keep RBlock.keeps h, h3.keep RPort.keeps h, h4.keep RPort.keeps h⟩
theorem RPacked.lowers : Lowers RPacked := by
  rintro W B B' x u h ⟨v0, v1, v2, v3, v4, hu, h0, h1, h2, h3, h4⟩
  exact ⟨v0, v1, v2, v3, v4, hu, h0.low RStr.lowers h, h1.low RStr.lowers h, h2.low RBlock.lowers h, h3.low RPort.lowers h, h4.low RPort.lowers h⟩
def szPacked (x : Packed) : Nat := szL (fun (s : ByteArray) => s.size) x.ins + szL (fun (s : ByteArray) => s.size) x.clocks + szL szBlock x.blocks + szL szPort x.outs + szL szPort x.checks
end Go.Proofs.Ytdmmbhemmbgcpad
