/-
  No cell of these rows narrows 'for every input' (looked for: loops, veiled, ifaces, maps, wideKeys, modest, calm, conditions, laid).
  DERIVED. THE GIVEN ROWS OF THIS SEAT. 5 by the template 'for every input the law returns true; each argument reads behind the call as it read before'; 0 by the template 'total and deterministic' (their statements: YtpbfbcdidkbjiabTotals.lean).
  GIVEN WITH THE SEED: the statements are not yours to turn. If you find one false, say at which input.
  Laid BY PROGRAM, IN A SANDBOX (cutbox-rows.mjs): the forced cells as the released guide's own fill.sh prints them over the translation 46632442a75c4dc3… (all of the seat's roots in one cut). By AI agents, Wed Nov 11 2026. No macro, syntax, notation, axiom, sorry.
-/
import Derived.Test.YtpbfbcdidkbjiabChecked
import GoSem.Claim
import GoSem.ClaimJoined
import GoSem.ClaimMapViews
import Derived.JoinedTies
import Derived.KernelRfl
namespace Go.Proofs.Ytpbfbcdidkbjiab
/- THE CELL 'sum', in the pinned program and in every row, IS THE sha256 OF THE DUMP (.gsa) THAT YtpbfbcdidkbjiabProg.lean LOADS. Nothing in Lean hashes anything: it is a label: what it is worth is what the hold of that sum in a sandbox is worth. -/
noncomputable def Try.pinned : Pinned := { name := "ytpbfbcdidkbjiab", sum := "46632442a75c4dc39798652af0b9c566d027c8b7aa78bfe88351c21953eaafd7", checked := Try.checked }
namespace Rows
def none {H : Type} : Left H := { results := [], args := [] }

/-- 'laws.FnExactSashAt': WHATEVER THE INPUT: true; the input reads as it did. -/
def fnExactSashAtSpec : ChangeSpec := { name := "fnExactSashAt", fn := fun _ => fun
  | [d1, d2] => { results := [.lit (.bool true)], args := [d1, d2] }
  | _ => none }
def fnExactSashAtRow : OpenClaim := { program := "ytpbfbcdidkbjiab", sum := "46632442a75c4dc39798652af0b9c566d027c8b7aa78bfe88351c21953eaafd7", func := "loop.example/widgetroom/laws.FnExactSashAt", spec := "fnExactSashAt", apart := false }
def FnExactSashAtSaid : Prop := fnExactSashAtRow.holds Try.pinned (OpenSpec.ofChange fnExactSashAtSpec)

/-- ITS FALSE NEIGHBOUR: 'it returns false'. Refute it at one input. -/
def fnExactSashAtWrong : ChangeSpec := { name := "fnExactSashAt", fn := fun _ => fun
  | [d1, d2] => { results := [.lit (.bool false)], args := [d1, d2] }
  | _ => none }
def FnExactSashAtWrongFalsely : Prop := fnExactSashAtRow.holds Try.pinned (OpenSpec.ofChange fnExactSashAtWrong)

/-- 'laws.FnExactPaneAt': WHATEVER THE INPUT: true; the input reads as it did. -/
def fnExactPaneAtSpec : ChangeSpec := { name := "fnExactPaneAt", fn := fun _ => fun
  | [d1, d2] => { results := [.lit (.bool true)], args := [d1, d2] }
  | _ => none }
def fnExactPaneAtRow : OpenClaim := { program := "ytpbfbcdidkbjiab", sum := "46632442a75c4dc39798652af0b9c566d027c8b7aa78bfe88351c21953eaafd7", func := "loop.example/widgetroom/laws.FnExactPaneAt", spec := "fnExactPaneAt", apart := false }
def FnExactPaneAtSaid : Prop := fnExactPaneAtRow.holds Try.pinned (OpenSpec.ofChange fnExactPaneAtSpec)

/-- ITS FALSE NEIGHBOUR: 'it returns false'. Refute it at one input. -/
def fnExactPaneAtWrong : ChangeSpec := { name := "fnExactPaneAt", fn := fun _ => fun
  | [d1, d2] => { results := [.lit (.bool false)], args := [d1, d2] }
  | _ => none }
def FnExactPaneAtWrongFalsely : Prop := fnExactPaneAtRow.holds Try.pinned (OpenSpec.ofChange fnExactPaneAtWrong)

/-- 'laws.FnExactDragSash': WHATEVER THE INPUT: true; the input reads as it did. -/
def fnExactDragSashSpec : ChangeSpec := { name := "fnExactDragSash", fn := fun _ => fun
  | [d1, d2, d3] => { results := [.lit (.bool true)], args := [d1, d2, d3] }
  | _ => none }
def fnExactDragSashRow : OpenClaim := { program := "ytpbfbcdidkbjiab", sum := "46632442a75c4dc39798652af0b9c566d027c8b7aa78bfe88351c21953eaafd7", func := "loop.example/widgetroom/laws.FnExactDragSash", spec := "fnExactDragSash", apart := false }
def FnExactDragSashSaid : Prop := fnExactDragSashRow.holds Try.pinned (OpenSpec.ofChange fnExactDragSashSpec)

/-- ITS FALSE NEIGHBOUR: 'it returns false'. Refute it at one input. -/
def fnExactDragSashWrong : ChangeSpec := { name := "fnExactDragSash", fn := fun _ => fun
  | [d1, d2, d3] => { results := [.lit (.bool false)], args := [d1, d2, d3] }
  | _ => none }
def FnExactDragSashWrongFalsely : Prop := fnExactDragSashRow.holds Try.pinned (OpenSpec.ofChange fnExactDragSashWrong)

/-- 'laws.FnValidPanes': WHATEVER THE INPUT: true; the input reads as it did. -/
def fnValidPanesSpec : ChangeSpec := { name := "fnValidPanes", fn := fun _ => fun
  | [d] => { results := [.lit (.bool true)], args := [d] }
  | _ => none }
def fnValidPanesRow : OpenClaim := { program := "ytpbfbcdidkbjiab", sum := "46632442a75c4dc39798652af0b9c566d027c8b7aa78bfe88351c21953eaafd7", func := "loop.example/widgetroom/laws.FnValidPanes", spec := "fnValidPanes", apart := false }
def FnValidPanesSaid : Prop := fnValidPanesRow.holds Try.pinned (OpenSpec.ofChange fnValidPanesSpec)

/-- ITS FALSE NEIGHBOUR: 'it returns false'. Refute it at one input. -/
def fnValidPanesWrong : ChangeSpec := { name := "fnValidPanes", fn := fun _ => fun
  | [d] => { results := [.lit (.bool false)], args := [d] }
  | _ => none }
def FnValidPanesWrongFalsely : Prop := fnValidPanesRow.holds Try.pinned (OpenSpec.ofChange fnValidPanesWrong)

/-- 'laws.FnSashAt': WHATEVER THE INPUT: true; the input reads as it did. -/
def fnSashAtSpec : ChangeSpec := { name := "fnSashAt", fn := fun _ => fun
  | [d] => { results := [.lit (.bool true)], args := [d] }
  | _ => none }
def fnSashAtRow : OpenClaim := { program := "ytpbfbcdidkbjiab", sum := "46632442a75c4dc39798652af0b9c566d027c8b7aa78bfe88351c21953eaafd7", func := "loop.example/widgetroom/laws.FnSashAt", spec := "fnSashAt", apart := false }
def FnSashAtSaid : Prop := fnSashAtRow.holds Try.pinned (OpenSpec.ofChange fnSashAtSpec)

/-- ITS FALSE NEIGHBOUR: 'it returns false'. Refute it at one input. -/
def fnSashAtWrong : ChangeSpec := { name := "fnSashAt", fn := fun _ => fun
  | [d] => { results := [.lit (.bool false)], args := [d] }
  | _ => none }
def FnSashAtWrongFalsely : Prop := fnSashAtRow.holds Try.pinned (OpenSpec.ofChange fnSashAtWrong)

/- THE SECOND FORM. 'bulk': how many values and letters a reading holds, each counted each time it is reached (what is shared counts as often as it is met; a slice's spare places count too). A statement '..UptoSaid' is the law's where the arguments, and the package variables that the reading takes, are together of bulk at most 1048576: NARROWER than '..Said'. Prove '..Said' where nothing that the law and all that it calls make is longer than what came in: it says more and counts as full. Else prove '..UptoSaid'. A law counts once. -/
mutual
def uptoBulk {H : Type} : DataW H → Nat
  | .lit (.string bytes) => bytes.length + 1
  | .lit _ => 1
  | .nil => 1
  | .ptr d => uptoBulk d + 1
  | .slice elems spare => uptoBulkAll elems + uptoBulkAll spare + 1
  | .agg parts => uptoBulkAll parts + 1
  | .iface _ d => uptoBulk d + 1
  | .map entries => uptoBulkEntries entries + 1
  | .held _ => 1
def uptoBulkAll {H : Type} : List (DataW H) → Nat
  | [] => 0
  | d :: r => uptoBulk d + uptoBulkAll r
def uptoBulkEntries {H : Type} : List (Lit × DataW H) → Nat
  | [] => 0
  | x :: r => uptoBulkEntry x + uptoBulkEntries r
def uptoBulkEntry {H : Type} : Lit × DataW H → Nat
  | (.string bytes, d) => bytes.length + uptoBulk d + 1
  | (_, d) => uptoBulk d + 1
 end
def uptoSmall : (H : Type) → List (DataW H) → Bool := fun _ ds => decide (uptoBulkAll ds ≤ 1048576)
def OpenSpec.upto (s : _root_.Go.ChangeSpec) : _root_.Go.OpenSpec := { _root_.Go.OpenSpec.ofChange s with cond := some uptoSmall }

/-- 'laws.FnExactSashAt', WHERE WHAT IT READS IS OF BULK AT MOST 1048576: true; the input reads as it did. -/
def fnExactSashAtUptoRow : OpenClaim := { program := "ytpbfbcdidkbjiab", sum := "46632442a75c4dc39798652af0b9c566d027c8b7aa78bfe88351c21953eaafd7", func := "loop.example/widgetroom/laws.FnExactSashAt", spec := "fnExactSashAt", apart := false, narrowed := true }
def FnExactSashAtUptoSaid : Prop := fnExactSashAtUptoRow.holds Try.pinned (OpenSpec.upto fnExactSashAtSpec)

/-- 'laws.FnExactPaneAt', WHERE WHAT IT READS IS OF BULK AT MOST 1048576: true; the input reads as it did. -/
def fnExactPaneAtUptoRow : OpenClaim := { program := "ytpbfbcdidkbjiab", sum := "46632442a75c4dc39798652af0b9c566d027c8b7aa78bfe88351c21953eaafd7", func := "loop.example/widgetroom/laws.FnExactPaneAt", spec := "fnExactPaneAt", apart := false, narrowed := true }
def FnExactPaneAtUptoSaid : Prop := fnExactPaneAtUptoRow.holds Try.pinned (OpenSpec.upto fnExactPaneAtSpec)

/-- 'laws.FnExactDragSash', WHERE WHAT IT READS IS OF BULK AT MOST 1048576: true; the input reads as it did. -/
def fnExactDragSashUptoRow : OpenClaim := { program := "ytpbfbcdidkbjiab", sum := "46632442a75c4dc39798652af0b9c566d027c8b7aa78bfe88351c21953eaafd7", func := "loop.example/widgetroom/laws.FnExactDragSash", spec := "fnExactDragSash", apart := false, narrowed := true }
def FnExactDragSashUptoSaid : Prop := fnExactDragSashUptoRow.holds Try.pinned (OpenSpec.upto fnExactDragSashSpec)

/-- 'laws.FnValidPanes', WHERE WHAT IT READS IS OF BULK AT MOST 1048576: true; the input reads as it did. -/
def fnValidPanesUptoRow : OpenClaim := { program := "ytpbfbcdidkbjiab", sum := "46632442a75c4dc39798652af0b9c566d027c8b7aa78bfe88351c21953eaafd7", func := "loop.example/widgetroom/laws.FnValidPanes", spec := "fnValidPanes", apart := false, narrowed := true }
def FnValidPanesUptoSaid : Prop := fnValidPanesUptoRow.holds Try.pinned (OpenSpec.upto fnValidPanesSpec)

/-- 'laws.FnSashAt', WHERE WHAT IT READS IS OF BULK AT MOST 1048576: true; the input reads as it did. -/
def fnSashAtUptoRow : OpenClaim := { program := "ytpbfbcdidkbjiab", sum := "46632442a75c4dc39798652af0b9c566d027c8b7aa78bfe88351c21953eaafd7", func := "loop.example/widgetroom/laws.FnSashAt", spec := "fnSashAt", apart := false, narrowed := true }
def FnSashAtUptoSaid : Prop := fnSashAtUptoRow.holds Try.pinned (OpenSpec.upto fnSashAtSpec)

end Rows
end Go.Proofs.Ytpbfbcdidkbjiab
