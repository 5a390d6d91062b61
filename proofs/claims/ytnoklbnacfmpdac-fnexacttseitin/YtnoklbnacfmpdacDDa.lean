/- Plain data: structures and how they are read out of cells. -/
import Derived.Test.YtnoklbnacfmpdacBase
import Derived.Test.YtnoklbnacfmpdacGS
namespace Go.Proofs.Ytnoklbnacfmpdac
open Go.RowKit Gs
set_option linter.unusedVariables false
set_option maxRecDepth 100000
structure Latch where
  name : ByteArray
  next : Int
  init : Int
  clock : Int
def RLatch : Rd Latch := fun W B x u => u = [.string x.name, .int .i64 x.next, .int .i64 x.init, .int .i64 x.clock] ∧ x.name.size ≤ maxLen
theorem RLatch.keeps : Keeps RLatch := by
  rintro W W' B x u h ⟨hu, h0⟩
  exact ⟨hu, h0⟩
theorem RLatch.lowers : Lowers RLatch := by
  rintro W B B' x u h ⟨hu, h0⟩
  exact ⟨hu, h0⟩
def szLatch (x : Latch) : Nat := x.name.size
structure AndG where
  a : Int
  b : Int
def RAndG : Rd AndG := fun W B x u => u = [.int .i64 x.a, .int .i64 x.b]
theorem RAndG.keeps : Keeps RAndG := by
  rintro W W' B x u h hu
  exact hu
theorem RAndG.lowers : Lowers RAndG := by
  rintro W B B' x u h hu
  exact hu
def szAndG (x : AndG) : Nat := 0
structure Pin where
  name : ByteArray
  lit : Int
def RPin : Rd Pin := fun W B x u => u = [.string x.name, .int .i64 x.lit] ∧ x.name.size ≤ maxLen
theorem RPin.keeps : Keeps RPin := by
  rintro W W' B x u h ⟨hu, h0⟩
  exact ⟨hu, h0⟩
theorem RPin.lowers : Lowers RPin := by
  rintro W B B' x u h ⟨hu, h0⟩
  exact ⟨hu, h0⟩
def szPin (x : Pin) : Nat := x.name.size
structure Aig where
  ins : (List ByteArray)
  clocks : (List ByteArray)
  latches : (List Latch)
  ands : (List AndG)
  outs : (List Pin)
  checks : (List Pin)
def RAig : Rd Aig := fun W B x u => ∃ v0, ∃ v1, ∃ v2, ∃ v3, ∃ v4, ∃ v5, u = [v0, v1, v2, v3, v4, v5] ∧ RS 1 RStr W B x.ins v0 ∧ RS 1 RStr W B x.clocks v1 ∧ RS 4 RLatch W B x.latches v2 ∧ RS 2 RAndG W B x.ands v3 ∧ RS 2 RPin W B x.outs v4 ∧ RS 2 RPin W B x.checks v5
theorem RAig.keeps : Keeps RAig := by
  rintro W W' B x u h ⟨v0, v1, v2, v3, v4, v5, hu, h0, h1, h2, h3, h4, h5⟩
  exact ⟨v0, v1, v2, v3, v4, v5, hu, h0.keep RStr.keeps h, h1.keep RStr.keeps h, h2.keep RLatch.keeps h, h3.keep RAndG.keeps h, h4.keep RPin.keeps h, h5.keep RPin.keeps h⟩
theorem RAig.lowers : Lowers RAig := by
  rintro W B B' x u h ⟨v0, v1, v2, v3, v4, v5, hu, h0, h1, h2, h3, h4, h5⟩
  exact ⟨v0, v1, v2, v3, v4, v5, hu, h0.low RStr.lowers h, h1.low RStr.lowers h, h2.low RLatch.lowers h, h3.low RAndG.lowers h, h4.low RPin.lowers h, h5.low RPin.lowers h⟩
def szAig (x : Aig) : Nat := szL (fun (s : ByteArray) => s.size) x.ins + szL (fun (s : ByteArray) => s.size) x.clocks + szL szLatch x.latches + szL szAndG x.ands + szL szPin x.outs + szL szPin x.checks
end Go.Proofs.Ytnoklbnacfmpdac
namespace Go.Proofs.Ytnoklbnacfmpdac
open Go.RowKit Gs
set_option linter.unusedVariables false
def RIntS : Rd (List Int) := RL 1 RInt
theorem RIntS.keeps : Keeps RIntS := RL.keeps RInt.keeps
theorem RIntS.lowers : Lowers RIntS := RL.lowers RInt.lowers
end Go.Proofs.Ytnoklbnacfmpdac
