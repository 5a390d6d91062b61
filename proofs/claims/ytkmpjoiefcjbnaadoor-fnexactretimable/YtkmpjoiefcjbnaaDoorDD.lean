/- Plain data: structures and how they are read out of cells. -/
import Derived.Test.YtkmpjoiefcjbnaaDoorBase
import Derived.Test.YtkmpjoiefcjbnaaDoorGS
namespace Go.Proofs.YtkmpjoiefcjbnaaDoor
open Go.RowKit Gs
set_option linter.unusedVariables false
set_option maxRecDepth 100000
structure NetPort where
  name : ByteArray
  width : Int
def RNetPort : Rd NetPort := fun W B x u => u = [.string x.name, .int .i64 x.width] ∧ x.name.size ≤ maxLen
theorem RNetPort.keeps : Keeps RNetPort := by
  rintro W W' B x u h ⟨hu, h0⟩
  exact ⟨hu, h0⟩
theorem RNetPort.lowers : Lowers RNetPort := by
  rintro W B B' x u h ⟨hu, h0⟩
  exact ⟨hu, h0⟩
def szNetPort (x : NetPort) : Nat := x.name.size
structure Cell where
  op : Int
  width : Int
  n : Int
  signed : Bool
  bits : ByteArray
  ins : List Int
def RCell : Rd Cell := fun W B x u => ∃ v5, u = [.int .i64 x.op, .int .i64 x.width, .int .i64 x.n, .bool x.signed, .string x.bits, v5] ∧ x.bits.size ≤ maxLen ∧ RS 1 RInt W B x.ins v5
theorem RCell.keeps : Keeps RCell := by
  rintro W W' B x u h ⟨v5, hu, h0, h1⟩
  exact ⟨v5, hu, h0, h1.keep RInt.keeps h⟩
theorem RCell.lowers : Lowers RCell := by
  rintro W B B' x u h ⟨v5, hu, h0, h1⟩
  exact ⟨v5, hu, h0, h1.low RInt.lowers h⟩
def szCell (x : Cell) : Nat := x.bits.size + szL (fun (_ : Int) => 0) x.ins
structure NetReg where
  name : ByteArray
  width : Int
  clock : Int
  next : Int
  init : ByteArray
def RNetReg : Rd NetReg := fun W B x u => u = [.string x.name, .int .i64 x.width, .int .i64 x.clock, .int .i64 x.next, .string x.init] ∧ x.name.size ≤ maxLen ∧ x.init.size ≤ maxLen
theorem RNetReg.keeps : Keeps RNetReg := by
  rintro W W' B x u h ⟨hu, h0, h1⟩
  exact ⟨hu, h0, h1⟩
theorem RNetReg.lowers : Lowers RNetReg := by
  rintro W B B' x u h ⟨hu, h0, h1⟩
  exact ⟨hu, h0, h1⟩
def szNetReg (x : NetReg) : Nat := x.name.size + x.init.size
structure NetOut where
  name : ByteArray
  cell : Int
def RNetOut : Rd NetOut := fun W B x u => u = [.string x.name, .int .i64 x.cell] ∧ x.name.size ≤ maxLen
theorem RNetOut.keeps : Keeps RNetOut := by
  rintro W W' B x u h ⟨hu, h0⟩
  exact ⟨hu, h0⟩
theorem RNetOut.lowers : Lowers RNetOut := by
  rintro W B B' x u h ⟨hu, h0⟩
  exact ⟨hu, h0⟩
def szNetOut (x : NetOut) : Nat := x.name.size
structure Net where
  ins : List NetPort
  clocks : List ByteArray
  cells : List Cell
  regs : List NetReg
  outs : List NetOut
  checks : List NetOut
def RNet : Rd Net := fun W B x u => ∃ v0, ∃ v1, ∃ v2, ∃ v3, ∃ v4, ∃ v5, u = [v0, v1, v2, v3, v4, v5] ∧ RS 2 RNetPort W B x.ins v0 ∧ RS 1 RStr W B x.clocks v1 ∧ RS 6 RCell W B x.cells v2 ∧ RS 5 RNetReg W B x.regs v3 ∧ RS 2 RNetOut W B x.outs v4 ∧ RS 2 RNetOut W B x.checks v5
theorem RNet.keeps : Keeps RNet := by
  rintro W W' B x u h ⟨v0, v1, v2, v3, v4, v5, hu, h0, h1, h2, h3, h4, h5⟩
  exact ⟨v0, v1, v2, v3, v4, v5, hu, h0.keep RNetPort.keeps h, h1.keep RStr.keeps h, h2.keep RCell.keeps h, h3.keep RNetReg.keeps h, h4.keep RNetOut.keeps h, h5.keep RNetOut.keeps h⟩
theorem RNet.lowers : Lowers RNet := by
  rintro W B B' x u h ⟨v0, v1, v2, v3, v4, v5, hu, h0, h1, h2, h3, h4, h5⟩
  exact ⟨v0, v1, v2, v3, v4, v5, hu, h0.low RNetPort.lowers h, h1.low RStr.lowers h, h2.low RCell.lowers h, h3.low RNetReg.lowers h, h4.low RNetOut.lowers h, h5.low RNetOut.lowers h⟩
def szNet (x : Net) : Nat := szL szNetPort x.ins + szL (fun (s : ByteArray) => s.size) x.clocks + szL szCell x.cells + szL szNetReg x.regs + szL szNetOut x.outs + szL szNetOut x.checks
end Go.Proofs.YtkmpjoiefcjbnaaDoor
