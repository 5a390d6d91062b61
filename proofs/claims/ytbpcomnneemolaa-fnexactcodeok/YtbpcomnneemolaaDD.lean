/- Plain data: structures and how they are read out of cells. -/
import Derived.Test.YtbpcomnneemolaaBase
import Derived.Test.YtbpcomnneemolaaGS
namespace Go.Proofs.Ytbpcomnneemolaa
open Go.RowKit Gs
set_option linter.unusedVariables false
set_option maxRecDepth 100000
structure Instr where
  op : Int
  dst : Int
  a : Int
  b : Int
  c : Int
  n : Int
  width : Int
  signed : Bool
  bits : ByteArray
def RInstr : Rd Instr := fun W B x u => u = [.int .i64 x.op, .int .i64 x.dst, .int .i64 x.a, .int .i64 x.b, .int .i64 x.c, .int .i64 x.n, .int .i64 x.width, .bool x.signed, .string x.bits] ∧ x.bits.size ≤ maxLen
theorem RInstr.keeps : Keeps RInstr := by
  rintro W W' B x u h ⟨hu, h0⟩
  exact ⟨hu, h0⟩
theorem RInstr.lowers : Lowers RInstr := by
  rintro W B B' x u h ⟨hu, h0⟩
  exact ⟨hu, h0⟩
def szInstr (x : Instr) : Nat := x.bits.size
structure Code where
  slots : Int
  instrs : List Instr
  ins : List Int
  clocks : Int
  inits : List ByteArray
  ticks : List Int
  nexts : List Int
  outs : List Int
  checks : List Int
def RCode : Rd Code := fun W B x u => ∃ v1, ∃ v2, ∃ v4, ∃ v5, ∃ v6, ∃ v7, ∃ v8, u = [.int .i64 x.slots, v1, v2, .int .i64 x.clocks, v4, v5, v6, v7, v8] ∧ RS 9 RInstr W B x.instrs v1 ∧ RS 1 RInt W B x.ins v2 ∧ RS 1 RStr W B x.inits v4 ∧ RS 1 RInt W B x.ticks v5 ∧ RS 1 RInt W B x.nexts v6 ∧ RS 1 RInt W B x.outs v7 ∧ RS 1 RInt W B x.checks v8
theorem RCode.keeps : Keeps RCode := by
  rintro W W' B x u h ⟨v1, v2, v4, v5, v6, v7, v8, hu, h0, h1, h2, h3, h4, h5, h6⟩
  exact ⟨v1, v2, v4, v5, v6, v7, v8, hu, h0.keep RInstr.keeps h, h1.keep RInt.keeps h, h2.keep RStr.keeps h, h3.keep RInt.keeps h, h4.keep RInt.keeps h, h5.keep RInt.keeps h, h6.keep RInt.keeps h⟩
theorem RCode.lowers : Lowers RCode := by
  rintro W B B' x u h ⟨v1, v2, v4, v5, v6, v7, v8, hu, h0, h1, h2, h3, h4, h5, h6⟩
  exact ⟨v1, v2, v4, v5, v6, v7, v8, hu, h0.low RInstr.lowers h, h1.low RInt.lowers h, h2.low RStr.lowers h, h3.low RInt.lowers h, h4.low RInt.lowers h, h5.low RInt.lowers h, h6.low RInt.lowers h⟩
def szCode (x : Code) : Nat := szL szInstr x.instrs + szL (fun (_ : Int) => 0) x.ins + szL (fun (s : ByteArray) => s.size) x.inits + szL (fun (_ : Int) => 0) x.ticks + szL (fun (_ : Int) => 0) x.nexts + szL (fun (_ : Int) => 0) x.outs + szL (fun (_ : Int) => 0) x.checks
end Go.Proofs.Ytbpcomnneemolaa
