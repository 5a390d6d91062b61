/- What follows each loop of the specification's CodeOK, by name. -/
import Derived.Test.YtbpcomnneemolaaSQ0
namespace Go.Proofs.Ytbpcomnneemolaa
open Go.RowKit
/-- A row of statements behind its first k. -/
def tl : Nat → Go.Code → Go.Code
  | 0, c => c
  | n + 1, .seq _ b => tl n b
  | _ + 1, c => c
def bodyOf (f : Func) : Go.Code := match f.body with | some c => c | none => .skip
def hd : Go.Code → Go.Code
  | .seq a _ => a
  | c => c
def sn : Go.Code → Go.Code
  | .seq _ b => b
  | c => c
def bl : Go.Code → Go.Code
  | .block _ c => c
  | c => c
def lo : Go.Code → Go.Code
  | .loop c => c
  | c => c
/-- One instruction's round. -/
def roundOf (c : Go.Code) : Go.Code := bl (hd (sn (lo (bl (sn (hd (tl 5 c)))))))
end Go.Proofs.Ytbpcomnneemolaa
