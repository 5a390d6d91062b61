/-
  NARROWER THAN 'FOR EVERY INPUT', by the rows' own cells (each row's printed sentence says how): FnExactRouteOK: laid.
  DERIVED. THE GIVEN ROWS OF THIS SEAT. 1 by the template 'for every input the law returns true; each argument reads behind the call as it read before'; 0 by the template 'total and deterministic' (their statements: YtlldfaniddbjaaaGreatDoorTotals.lean).
  GIVEN WITH THE SEED: the statements are not yours to turn. If you find one false, say at which input.
  Laid BY PROGRAM, IN A SANDBOX (cutbox-rows.mjs): the forced cells as the released guide's own fill.sh prints them over the translation 9a7d068b1f545adb… (all of the seat's roots in one cut). By AI agents, Wed Nov 11 2026. No macro, syntax, notation, axiom, sorry.
-/
import Derived.Test.YtlldfaniddbjaaaGreatDoorChecked
import GoSem.Claim
import GoSem.ClaimJoined
import GoSem.ClaimMapViews
import Derived.JoinedTies
import Derived.KernelRfl
namespace Go.Proofs.YtlldfaniddbjaaaGreatDoor
/- THE CELL 'sum', in the pinned program and in every row, IS THE sha256 OF THE DUMP (.gsa) THAT YtlldfaniddbjaaaGreatDoorProg.lean LOADS. Nothing in Lean hashes anything: it is a label: what it is worth is what the hold of that sum in a sandbox is worth. -/
noncomputable def Tryz.pinned : Pinned := { name := "ytlldfaniddbjaaagreatdoor", sum := "9a7d068b1f545adb35c1f7d298ae16cd36f240d9885ed1e868b4eb2fcf166073", checked := Tryz.checked }
namespace Rows
def none {H : Type} : Left H := { results := [], args := [] }

/- WHAT THE LISTED PACKAGE-LEVEL VARIABLES READ AS WHEN THE CALL BEGINS. Each datum BY PROGRAM (the guide's laid-datum.mjs) off the statement by which the dump's own 'gosem.cut.vars' lays the variable. In a bare row this is a premise. The card (YtlldfaniddbjaaaGreatDoorCards.lean) ties it to the program's text. -/
def laid_loop_example_g00031_impl_courses {H : Type} : DataW H := .agg [.agg [.lit (.int .i64 1), .lit (.int .i64 0)], .agg [.lit (.int .i64 0), .lit (.int .i64 1)], .agg [.lit (.int .i64 (-1)), .lit (.int .i64 0)], .agg [.lit (.int .i64 0), .lit (.int .i64 (-1))]]

/-- 'laws.FnExactRouteOK': WHATEVER THE INPUT: true; the input reads as it did. -/
def fnExactRouteOKSpec : ChangeSpec := { name := "fnExactRouteOK", vars := ["loop.example/g00031/impl.courses"], fn := fun _ => fun
  | [d1, d2, d3, d4, g1] => { results := [.lit (.bool true)], args := [d1, d2, d3, d4], vars := [g1] }
  | _ => none }
def fnExactRouteOKRow : OpenClaim := { program := "ytlldfaniddbjaaagreatdoor", sum := "9a7d068b1f545adb35c1f7d298ae16cd36f240d9885ed1e868b4eb2fcf166073", func := "loop.example/g00031/laws.FnExactRouteOK", spec := "fnExactRouteOK", unfollowed := true, recurses := true, named := ["loop.example/g00031/impl.courses"], plainKeys := false, apart := false, laid := [("loop.example/g00031/impl.courses", laid_loop_example_g00031_impl_courses)] }
def FnExactRouteOKSaid : Prop := fnExactRouteOKRow.holds Tryz.pinned (OpenSpec.ofChange fnExactRouteOKSpec)

/-- ITS FALSE NEIGHBOUR: 'it returns false'. Refute it at one input. -/
def fnExactRouteOKWrong : ChangeSpec := { name := "fnExactRouteOK", vars := ["loop.example/g00031/impl.courses"], fn := fun _ => fun
  | [d1, d2, d3, d4, g1] => { results := [.lit (.bool false)], args := [d1, d2, d3, d4], vars := [g1] }
  | _ => none }
def FnExactRouteOKWrongFalsely : Prop := fnExactRouteOKRow.holds Tryz.pinned (OpenSpec.ofChange fnExactRouteOKWrong)

/- THE SECOND FORM. 'bulk': how many values and letters a reading holds, each counted each time it is reached (what is shared counts as often as it is met; a slice's spare places count too). A statement '..UptoSaid' is the law's where the arguments, and the package variables that the reading takes, are together of bulk at most 1048576: NARROWER than '..Said'. Prove '..Said' where nothing that the law and all that it calls make is longer than what came in: it says more and counts as full. Else prove '..UptoSaid'. A law counts once. -/
mutual
def uptoBulk {H : Type} : DataW H → Nat
  | .lit (.string bytes) => bytes.length + 1
  | .lit _ => 1
  | .nil => 1
  | .ptr d => uptoBulk d + 1
  | .slice elems spare => uptoBulkAll elems + uptoBulkAll spare + 1
  | .agg parts => uptoBulkAll parts + 1
  | .iface _ d => uptoBulk d + 1
  | .map entries => uptoBulkEntries entries + 1
  | .held _ => 1
def uptoBulkAll {H : Type} : List (DataW H) → Nat
  | [] => 0
  | d :: r => uptoBulk d + uptoBulkAll r
def uptoBulkEntries {H : Type} : List (Lit × DataW H) → Nat
  | [] => 0
  | x :: r => uptoBulkEntry x + uptoBulkEntries r
def uptoBulkEntry {H : Type} : Lit × DataW H → Nat
  | (.string bytes, d) => bytes.length + uptoBulk d + 1
  | (_, d) => uptoBulk d + 1
 end
def uptoSmall : (H : Type) → List (DataW H) → Bool := fun _ ds => decide (uptoBulkAll ds ≤ 1048576)
def OpenSpec.upto (s : _root_.Go.ChangeSpec) : _root_.Go.OpenSpec := { _root_.Go.OpenSpec.ofChange s with cond := some uptoSmall }

/-- 'laws.FnExactRouteOK', WHERE WHAT IT READS IS OF BULK AT MOST 1048576: true; the input reads as it did. -/
def fnExactRouteOKUptoRow : OpenClaim := { program := "ytlldfaniddbjaaagreatdoor", sum := "9a7d068b1f545adb35c1f7d298ae16cd36f240d9885ed1e868b4eb2fcf166073", func := "loop.example/g00031/laws.FnExactRouteOK", spec := "fnExactRouteOK", unfollowed := true, recurses := true, named := ["loop.example/g00031/impl.courses"], plainKeys := false, apart := false, laid := [("loop.example/g00031/impl.courses", laid_loop_example_g00031_impl_courses)], narrowed := true }
def FnExactRouteOKUptoSaid : Prop := fnExactRouteOKUptoRow.holds Tryz.pinned (OpenSpec.upto fnExactRouteOKSpec)

end Rows
end Go.Proofs.YtlldfaniddbjaaaGreatDoor
