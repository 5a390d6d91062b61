/- Plain data: structures and how they are read out of cells. -/
import Derived.Test.YtjbbjgoofenkpaaBase
import Derived.Test.YtjbbjgoofenkpaaGS
namespace Go.Proofs.Ytjbbjgoofenkpaa
open Go.RowKit Gs
set_option linter.unusedVariables false
set_option maxRecDepth 100000
def RIntS : Rd (List Int) := RL 1 RInt
theorem RIntS.keeps : Keeps RIntS := RL.keeps RInt.keeps
theorem RIntS.lowers : Lowers RIntS := RL.lowers RInt.lowers
def szIntS (x : (List Int)) : Nat := szL (fun (_ : Int) => 0) x
def RStringS : Rd (List ByteArray) := RL 1 RStr
theorem RStringS.keeps : Keeps RStringS := RL.keeps RStr.keeps
theorem RStringS.lowers : Lowers RStringS := RL.lowers RStr.lowers
def szStringS (x : (List ByteArray)) : Nat := szL (fun (s : ByteArray) => s.size) x
structure Fsm where
  ins : Int
  outBits : Int
  states : (List ByteArray)
  next : (List (List Int))
  outs : (List (List ByteArray))
def RFsm : Rd Fsm := fun W B x u => ∃ v2, ∃ v3, ∃ v4, u = [.int .i64 x.ins, .int .i64 x.outBits, v2, v3, v4] ∧ RS 1 RStr W B x.states v2 ∧ RS 1 RIntS W B x.next v3 ∧ RS 1 RStringS W B x.outs v4
theorem RFsm.keeps : Keeps RFsm := by
  rintro W W' B x u h ⟨v2, v3, v4, hu, h0, h1, h2⟩
  exact ⟨v2, v3, v4, hu, h0.keep RStr.keeps h, h1.keep RIntS.keeps h, h2.keep RStringS.keeps h⟩
theorem RFsm.lowers : Lowers RFsm := by
  rintro W B B' x u h ⟨v2, v3, v4, hu, h0, h1, h2⟩
  exact ⟨v2, v3, v4, hu, h0.low RStr.lowers h, h1.low RIntS.lowers h, h2.low RStringS.lowers h⟩
def szFsm (x : Fsm) : Nat := szL (fun (s : ByteArray) => s.size) x.states + szL szIntS x.next + szL szStringS x.outs
end Go.Proofs.Ytjbbjgoofenkpaa
