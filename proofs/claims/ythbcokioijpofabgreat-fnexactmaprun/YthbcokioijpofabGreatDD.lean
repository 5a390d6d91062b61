/- Plain data: structures and how they are read out of cells. -/
import Derived.Test.YthbcokioijpofabGreatBase
import Derived.Test.YthbcokioijpofabGreatGS
namespace Go.Proofs.YthbcokioijpofabGreat
open Go.RowKit Gs
set_option linter.unusedVariables false
set_option maxRecDepth 100000
structure MapReg where
  name : ByteArray
  src : Int
  init : Int
  clock : Int
def RMapReg : Rd MapReg := fun W B x u => u = [.string x.name, .int .i64 x.src, .int .i64 x.init, .int .i64 x.clock] ∧ x.name.size ≤ maxLen
theorem RMapReg.keeps : Keeps RMapReg := by
  rintro W W' B x u h ⟨hu, h0⟩
  exact ⟨hu, h0⟩
theorem RMapReg.lowers : Lowers RMapReg := by
  rintro W B B' x u h ⟨hu, h0⟩
  exact ⟨hu, h0⟩
def szMapReg (x : MapReg) : Nat := x.name.size
structure Lut where
  inp : (List Int)
  table : Int
def RLut : Rd Lut := fun W B x u => ∃ v0, u = [v0, .int .i64 x.table] ∧ RS 1 RInt W B x.inp v0
theorem RLut.keeps : Keeps RLut := by
  rintro W W' B x u h ⟨v0, hu, h0⟩
  exact ⟨v0, hu, h0.keep RInt.keeps h⟩
theorem RLut.lowers : Lowers RLut := by
  rintro W B B' x u h ⟨v0, hu, h0⟩
  exact ⟨v0, hu, h0.low RInt.lowers h⟩
def szLut (x : Lut) : Nat := szL (fun (_ : Int) => 0) x.inp
structure Port where
  name : ByteArray
  src : Int
def RPort : Rd Port := fun W B x u => u = [.string x.name, .int .i64 x.src] ∧ x.name.size ≤ maxLen
theorem RPort.keeps : Keeps RPort := by
  rintro W W' B x u h ⟨hu, h0⟩
  exact ⟨hu, h0⟩
theorem RPort.lowers : Lowers RPort := by
  rintro W B B' x u h ⟨hu, h0⟩
  exact ⟨hu, h0⟩
def szPort (x : Port) : Nat := x.name.size
structure Mapped where
  ins : (List ByteArray)
  clocks : (List ByteArray)
  regs : (List MapReg)
  luts : (List Lut)
  outs : (List Port)
  checks : (List Port)
def RMapped : Rd Mapped := fun W B x u => ∃ v0, ∃ v1, ∃ v2, ∃ v3, ∃ v4, ∃ v5, u = [v0, v1, v2, v3, v4, v5] ∧ RS 1 RStr W B x.ins v0 ∧ RS 1 RStr W B x.clocks v1 ∧ RS 4 RMapReg W B x.regs v2 ∧ RS 2 RLut W B x.luts v3 ∧ RS 2 RPort W B x.outs v4 ∧ RS 2 RPort W B x.checks v5
theorem RMapped.keeps : Keeps RMapped := by
  rintro W W' B x u h ⟨v0, v1, v2, v3, v4, v5, hu, h0, h1, h2, h3, h4, h5⟩
  exact ⟨v0, v1, v2, v3, v4, v5, hu, h0.keep RStr.keeps h, h1.keep RStr.keeps h, h2.keep RMapReg.keeps h, h3.keep RLut.keeps h, h4.keep RPort.keeps h, h5.keep RPort.keeps h⟩
theorem RMapped.lowers : Lowers RMapped := by
  rintro W B B' x u h ⟨v0, v1, v2, v3, v4, v5, hu, h0, h1, h2, h3, h4, h5⟩
  exact ⟨v0, v1, v2, v3, v4, v5, hu, h0.low RStr.lowers h, h1.low RStr.lowers h, h2.low RMapReg.lowers h, h3.low RLut.lowers h, h4.low RPort.lowers h, h5.low RPort.lowers h⟩
def szMapped (x : Mapped) : Nat := szL (fun (s : ByteArray) => s.size) x.ins + szL (fun (s : ByteArray) => s.size) x.clocks + szL szMapReg x.regs + szL szLut x.luts + szL szPort x.outs + szL szPort x.checks
structure Step where
  ins : (List ByteArray)
  ticks : (List Bool)
def RStep : Rd Step := fun W B x u => ∃ v0, ∃ v1, u = [v0, v1] ∧ RS 1 RStr W B x.ins v0 ∧ RS 1 RBool W B x.ticks v1
theorem RStep.keeps : Keeps RStep := by
  rintro W W' B x u h ⟨v0, v1, hu, h0, h1⟩
  exact ⟨v0, v1, hu, h0.keep RStr.keeps h, h1.keep RBool.keeps h⟩
theorem RStep.lowers : Lowers RStep := by
  rintro W B B' x u h ⟨v0, v1, hu, h0, h1⟩
  exact ⟨v0, v1, hu, h0.low RStr.lowers h, h1.low RBool.lowers h⟩
def szStep (x : Step) : Nat := szL (fun (s : ByteArray) => s.size) x.ins + szL (fun (_ : Bool) => 0) x.ticks
structure Row where
  outs : (List ByteArray)
  checks : (List ByteArray)
  regs : (List ByteArray)
def RRow : Rd Row := fun W B x u => ∃ v0, ∃ v1, ∃ v2, u = [v0, v1, v2] ∧ RS 1 RStr W B x.outs v0 ∧ RS 1 RStr W B x.checks v1 ∧ RS 1 RStr W B x.regs v2
theorem RRow.keeps : Keeps RRow := by
  rintro W W' B x u h ⟨v0, v1, v2, hu, h0, h1, h2⟩
  exact ⟨v0, v1, v2, hu, h0.keep RStr.keeps h, h1.keep RStr.keeps h, h2.keep RStr.keeps h⟩
theorem RRow.lowers : Lowers RRow := by
  rintro W B B' x u h ⟨v0, v1, v2, hu, h0, h1, h2⟩
  exact ⟨v0, v1, v2, hu, h0.low RStr.lowers h, h1.low RStr.lowers h, h2.low RStr.lowers h⟩
def szRow (x : Row) : Nat := szL (fun (s : ByteArray) => s.size) x.outs + szL (fun (s : ByteArray) => s.size) x.checks + szL (fun (s : ByteArray) => s.size) x.regs
end Go.Proofs.YthbcokioijpofabGreat
