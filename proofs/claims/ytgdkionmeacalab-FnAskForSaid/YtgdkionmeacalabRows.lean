/-
  No cell of these rows narrows 'for every input' (looked for: loops, veiled, ifaces, maps, wideKeys, modest, calm, conditions, laid).
  DERIVED. THE GIVEN ROWS OF THIS SEAT. 3 by the template 'for every input the law returns true; each argument reads behind the call as it read before'; 0 by the template 'total and deterministic' (their statements: YtgdkionmeacalabTotals.lean).
  GIVEN WITH THE SEED: the statements are not yours to turn. If you find one false, say at which input.
  Laid BY PROGRAM, IN A SANDBOX (cutbox-rows.mjs): the forced cells as the released guide's own fill.sh prints them over the translation 356385c03297ec99… (all of the seat's roots in one cut). By AI agents, Wed Nov 11 2026. No macro, syntax, notation, axiom, sorry.
-/
import Derived.Test.YtgdkionmeacalabChecked
import GoSem.Claim
import GoSem.ClaimJoined
import GoSem.ClaimMapViews
import Derived.JoinedTies
import Derived.KernelRfl
namespace Go.Proofs.Ytgdkionmeacalab
/- THE CELL 'sum', in the pinned program and in every row, IS THE sha256 OF THE DUMP (.gsa) THAT YtgdkionmeacalabProg.lean LOADS. Nothing in Lean hashes anything: it is a label: what it is worth is what the hold of that sum in a sandbox is worth. -/
noncomputable def Try.pinned : Pinned := { name := "ytgdkionmeacalab", sum := "356385c03297ec994f3a2839d09106ef4c5c4c515762ca53925d85b17bd369a4", checked := Try.checked }
namespace Rows
def none {H : Type} : Left H := { results := [], args := [] }

/-- 'laws.FnAskFor': WHATEVER THE INPUT: true; the input reads as it did. -/
def fnAskForSpec : ChangeSpec := { name := "fnAskFor", fn := fun _ => fun
  | [d] => { results := [.lit (.bool true)], args := [d] }
  | _ => none }
def fnAskForRow : OpenClaim := { program := "ytgdkionmeacalab", sum := "356385c03297ec994f3a2839d09106ef4c5c4c515762ca53925d85b17bd369a4", func := "loop.example/widgetroom/laws.FnAskFor", spec := "fnAskFor", unfollowed := true, recurses := true, apart := false }
def FnAskForSaid : Prop := fnAskForRow.holds Try.pinned (OpenSpec.ofChange fnAskForSpec)

/-- ITS FALSE NEIGHBOUR: 'it returns false'. Refute it at one input. -/
def fnAskForWrong : ChangeSpec := { name := "fnAskFor", fn := fun _ => fun
  | [d] => { results := [.lit (.bool false)], args := [d] }
  | _ => none }
def FnAskForWrongFalsely : Prop := fnAskForRow.holds Try.pinned (OpenSpec.ofChange fnAskForWrong)

/-- 'laws.FnWayUp': WHATEVER THE INPUT: true; the input reads as it did. -/
def fnWayUpSpec : ChangeSpec := { name := "fnWayUp", fn := fun _ => fun
  | [d] => { results := [.lit (.bool true)], args := [d] }
  | _ => none }
def fnWayUpRow : OpenClaim := { program := "ytgdkionmeacalab", sum := "356385c03297ec994f3a2839d09106ef4c5c4c515762ca53925d85b17bd369a4", func := "loop.example/widgetroom/laws.FnWayUp", spec := "fnWayUp", unfollowed := true, recurses := true, apart := false }
def FnWayUpSaid : Prop := fnWayUpRow.holds Try.pinned (OpenSpec.ofChange fnWayUpSpec)

/-- ITS FALSE NEIGHBOUR: 'it returns false'. Refute it at one input. -/
def fnWayUpWrong : ChangeSpec := { name := "fnWayUp", fn := fun _ => fun
  | [d] => { results := [.lit (.bool false)], args := [d] }
  | _ => none }
def FnWayUpWrongFalsely : Prop := fnWayUpRow.holds Try.pinned (OpenSpec.ofChange fnWayUpWrong)

/-- 'laws.FnValidTree': WHATEVER THE INPUT: true; the input reads as it did. -/
def fnValidTreeSpec : ChangeSpec := { name := "fnValidTree", fn := fun _ => fun
  | [d] => { results := [.lit (.bool true)], args := [d] }
  | _ => none }
def fnValidTreeRow : OpenClaim := { program := "ytgdkionmeacalab", sum := "356385c03297ec994f3a2839d09106ef4c5c4c515762ca53925d85b17bd369a4", func := "loop.example/widgetroom/laws.FnValidTree", spec := "fnValidTree", unfollowed := true, recurses := true, apart := false }
def FnValidTreeSaid : Prop := fnValidTreeRow.holds Try.pinned (OpenSpec.ofChange fnValidTreeSpec)

/-- ITS FALSE NEIGHBOUR: 'it returns false'. Refute it at one input. -/
def fnValidTreeWrong : ChangeSpec := { name := "fnValidTree", fn := fun _ => fun
  | [d] => { results := [.lit (.bool false)], args := [d] }
  | _ => none }
def FnValidTreeWrongFalsely : Prop := fnValidTreeRow.holds Try.pinned (OpenSpec.ofChange fnValidTreeWrong)

/- THE SECOND FORM. 'bulk': how many values and letters a reading holds, each counted each time it is reached (what is shared counts as often as it is met; a slice's spare places count too). A statement '..UptoSaid' is the law's where the arguments, and the package variables that the reading takes, are together of bulk at most 1048576: NARROWER than '..Said'. Prove '..Said' where nothing that the law and all that it calls make is longer than what came in: it says more and counts as full. Else prove '..UptoSaid'. A law counts once. -/
mutual
def uptoBulk {H : Type} : DataW H → Nat
  | .lit (.string bytes) => bytes.length + 1
  | .lit _ => 1
  | .nil => 1
  | .ptr d => uptoBulk d + 1
  | .slice elems spare => uptoBulkAll elems + uptoBulkAll spare + 1
  | .agg parts => uptoBulkAll parts + 1
  | .iface _ d => uptoBulk d + 1
  | .map entries => uptoBulkEntries entries + 1
  | .held _ => 1
def uptoBulkAll {H : Type} : List (DataW H) → Nat
  | [] => 0
  | d :: r => uptoBulk d + uptoBulkAll r
def uptoBulkEntries {H : Type} : List (Lit × DataW H) → Nat
  | [] => 0
  | x :: r => uptoBulkEntry x + uptoBulkEntries r
def uptoBulkEntry {H : Type} : Lit × DataW H → Nat
  | (.string bytes, d) => bytes.length + uptoBulk d + 1
  | (_, d) => uptoBulk d + 1
 end
def uptoSmall : (H : Type) → List (DataW H) → Bool := fun _ ds => decide (uptoBulkAll ds ≤ 1048576)
def OpenSpec.upto (s : _root_.Go.ChangeSpec) : _root_.Go.OpenSpec := { _root_.Go.OpenSpec.ofChange s with cond := some uptoSmall }

/-- 'laws.FnAskFor', WHERE WHAT IT READS IS OF BULK AT MOST 1048576: true; the input reads as it did. -/
def fnAskForUptoRow : OpenClaim := { program := "ytgdkionmeacalab", sum := "356385c03297ec994f3a2839d09106ef4c5c4c515762ca53925d85b17bd369a4", func := "loop.example/widgetroom/laws.FnAskFor", spec := "fnAskFor", unfollowed := true, recurses := true, apart := false, narrowed := true }
def FnAskForUptoSaid : Prop := fnAskForUptoRow.holds Try.pinned (OpenSpec.upto fnAskForSpec)

/-- 'laws.FnWayUp', WHERE WHAT IT READS IS OF BULK AT MOST 1048576: true; the input reads as it did. -/
def fnWayUpUptoRow : OpenClaim := { program := "ytgdkionmeacalab", sum := "356385c03297ec994f3a2839d09106ef4c5c4c515762ca53925d85b17bd369a4", func := "loop.example/widgetroom/laws.FnWayUp", spec := "fnWayUp", unfollowed := true, recurses := true, apart := false, narrowed := true }
def FnWayUpUptoSaid : Prop := fnWayUpUptoRow.holds Try.pinned (OpenSpec.upto fnWayUpSpec)

/-- 'laws.FnValidTree', WHERE WHAT IT READS IS OF BULK AT MOST 1048576: true; the input reads as it did. -/
def fnValidTreeUptoRow : OpenClaim := { program := "ytgdkionmeacalab", sum := "356385c03297ec994f3a2839d09106ef4c5c4c515762ca53925d85b17bd369a4", func := "loop.example/widgetroom/laws.FnValidTree", spec := "fnValidTree", unfollowed := true, recurses := true, apart := false, narrowed := true }
def FnValidTreeUptoSaid : Prop := fnValidTreeUptoRow.holds Try.pinned (OpenSpec.upto fnValidTreeSpec)

end Rows
end Go.Proofs.Ytgdkionmeacalab
