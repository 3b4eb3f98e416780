/-
  No cell of these rows narrows 'for every input' (looked for: loops, veiled, ifaces, maps, wideKeys, modest, calm, conditions, laid).
  DERIVED. THE GIVEN ROWS OF THIS SEAT. 10 by the template 'for every input the law returns true; each argument reads behind the call as it read before'; 0 by the template 'total and deterministic' (their statements: YtfnpdlnepjhljaaGreatTotals.lean).
  GIVEN WITH THE SEED: the statements are not yours to turn. If you find one false, say at which input.
  Laid BY PROGRAM, IN A SANDBOX (cutbox-rows.mjs): the forced cells as the released guide's own fill.sh prints them over the translation 9350378f218a4595… (all of the seat's roots in one cut). By AI agents, Wed Nov 11 2026. No macro, syntax, notation, axiom, sorry.
-/
import Derived.Test.YtfnpdlnepjhljaaGreatChecked
import GoSem.Claim
import GoSem.ClaimJoined
import GoSem.ClaimMapViews
import Derived.JoinedTies
import Derived.KernelRfl
namespace Go.Proofs.YtfnpdlnepjhljaaGreat
/- THE CELL 'sum', in the pinned program and in every row, IS THE sha256 OF THE DUMP (.gsa) THAT YtfnpdlnepjhljaaGreatProg.lean LOADS. Nothing in Lean hashes anything: it is a label: what it is worth is what the hold of that sum in a sandbox is worth. -/
noncomputable def Tryz.pinned : Pinned := { name := "ytfnpdlnepjhljaagreat", sum := "9350378f218a4595c3cb6a2be7158dde90ab110f2b0015b601a44294991c4c06", checked := Tryz.checked }
namespace Rows
def none {H : Type} : Left H := { results := [], args := [] }

/-- 'laws.FnLayoutTree': WHATEVER THE INPUT: true; the input reads as it did. -/
def fnLayoutTreeSpec : ChangeSpec := { name := "fnLayoutTree", fn := fun _ => fun
  | [d] => { results := [.lit (.bool true)], args := [d] }
  | _ => none }
def fnLayoutTreeRow : OpenClaim := { program := "ytfnpdlnepjhljaagreat", sum := "9350378f218a4595c3cb6a2be7158dde90ab110f2b0015b601a44294991c4c06", func := "loop.example/widgetroom/laws.FnLayoutTree", spec := "fnLayoutTree", unfollowed := true, recurses := true, apart := false }
def FnLayoutTreeSaid : Prop := fnLayoutTreeRow.holds Tryz.pinned (OpenSpec.ofChange fnLayoutTreeSpec)

/-- ITS FALSE NEIGHBOUR: 'it returns false'. Refute it at one input. -/
def fnLayoutTreeWrong : ChangeSpec := { name := "fnLayoutTree", fn := fun _ => fun
  | [d] => { results := [.lit (.bool false)], args := [d] }
  | _ => none }
def FnLayoutTreeWrongFalsely : Prop := fnLayoutTreeRow.holds Tryz.pinned (OpenSpec.ofChange fnLayoutTreeWrong)

/-- 'laws.FnLayoutTreePack': WHATEVER THE INPUT: true; the input reads as it did. -/
def fnLayoutTreePackSpec : ChangeSpec := { name := "fnLayoutTreePack", fn := fun _ => fun
  | [d] => { results := [.lit (.bool true)], args := [d] }
  | _ => none }
def fnLayoutTreePackRow : OpenClaim := { program := "ytfnpdlnepjhljaagreat", sum := "9350378f218a4595c3cb6a2be7158dde90ab110f2b0015b601a44294991c4c06", func := "loop.example/widgetroom/laws.FnLayoutTreePack", spec := "fnLayoutTreePack", unfollowed := true, recurses := true, apart := false }
def FnLayoutTreePackSaid : Prop := fnLayoutTreePackRow.holds Tryz.pinned (OpenSpec.ofChange fnLayoutTreePackSpec)

/-- ITS FALSE NEIGHBOUR: 'it returns false'. Refute it at one input. -/
def fnLayoutTreePackWrong : ChangeSpec := { name := "fnLayoutTreePack", fn := fun _ => fun
  | [d] => { results := [.lit (.bool false)], args := [d] }
  | _ => none }
def FnLayoutTreePackWrongFalsely : Prop := fnLayoutTreePackRow.holds Tryz.pinned (OpenSpec.ofChange fnLayoutTreePackWrong)

/-- 'laws.FnMovedBy': WHATEVER THE INPUT: true; the input reads as it did. -/
def fnMovedBySpec : ChangeSpec := { name := "fnMovedBy", fn := fun _ => fun
  | [d] => { results := [.lit (.bool true)], args := [d] }
  | _ => none }
def fnMovedByRow : OpenClaim := { program := "ytfnpdlnepjhljaagreat", sum := "9350378f218a4595c3cb6a2be7158dde90ab110f2b0015b601a44294991c4c06", func := "loop.example/widgetroom/laws.FnMovedBy", spec := "fnMovedBy", unfollowed := true, recurses := true, apart := false }
def FnMovedBySaid : Prop := fnMovedByRow.holds Tryz.pinned (OpenSpec.ofChange fnMovedBySpec)

/-- ITS FALSE NEIGHBOUR: 'it returns false'. Refute it at one input. -/
def fnMovedByWrong : ChangeSpec := { name := "fnMovedBy", fn := fun _ => fun
  | [d] => { results := [.lit (.bool false)], args := [d] }
  | _ => none }
def FnMovedByWrongFalsely : Prop := fnMovedByRow.holds Tryz.pinned (OpenSpec.ofChange fnMovedByWrong)

/-- 'laws.FnNaturalLayout': WHATEVER THE INPUT: true; the input reads as it did. -/
def fnNaturalLayoutSpec : ChangeSpec := { name := "fnNaturalLayout", fn := fun _ => fun
  | [d] => { results := [.lit (.bool true)], args := [d] }
  | _ => none }
def fnNaturalLayoutRow : OpenClaim := { program := "ytfnpdlnepjhljaagreat", sum := "9350378f218a4595c3cb6a2be7158dde90ab110f2b0015b601a44294991c4c06", func := "loop.example/widgetroom/laws.FnNaturalLayout", spec := "fnNaturalLayout", unfollowed := true, recurses := true, apart := false }
def FnNaturalLayoutSaid : Prop := fnNaturalLayoutRow.holds Tryz.pinned (OpenSpec.ofChange fnNaturalLayoutSpec)

/-- ITS FALSE NEIGHBOUR: 'it returns false'. Refute it at one input. -/
def fnNaturalLayoutWrong : ChangeSpec := { name := "fnNaturalLayout", fn := fun _ => fun
  | [d] => { results := [.lit (.bool false)], args := [d] }
  | _ => none }
def FnNaturalLayoutWrongFalsely : Prop := fnNaturalLayoutRow.holds Tryz.pinned (OpenSpec.ofChange fnNaturalLayoutWrong)

/-- 'laws.FnSeenPart': WHATEVER THE INPUT: true; the input reads as it did. -/
def fnSeenPartSpec : ChangeSpec := { name := "fnSeenPart", fn := fun _ => fun
  | [d] => { results := [.lit (.bool true)], args := [d] }
  | _ => none }
def fnSeenPartRow : OpenClaim := { program := "ytfnpdlnepjhljaagreat", sum := "9350378f218a4595c3cb6a2be7158dde90ab110f2b0015b601a44294991c4c06", func := "loop.example/widgetroom/laws.FnSeenPart", spec := "fnSeenPart", unfollowed := true, recurses := true, apart := false }
def FnSeenPartSaid : Prop := fnSeenPartRow.holds Tryz.pinned (OpenSpec.ofChange fnSeenPartSpec)

/-- ITS FALSE NEIGHBOUR: 'it returns false'. Refute it at one input. -/
def fnSeenPartWrong : ChangeSpec := { name := "fnSeenPart", fn := fun _ => fun
  | [d] => { results := [.lit (.bool false)], args := [d] }
  | _ => none }
def FnSeenPartWrongFalsely : Prop := fnSeenPartRow.holds Tryz.pinned (OpenSpec.ofChange fnSeenPartWrong)

/-- 'laws.FnHitNode': WHATEVER THE INPUT: true; the input reads as it did. -/
def fnHitNodeSpec : ChangeSpec := { name := "fnHitNode", fn := fun _ => fun
  | [d] => { results := [.lit (.bool true)], args := [d] }
  | _ => none }
def fnHitNodeRow : OpenClaim := { program := "ytfnpdlnepjhljaagreat", sum := "9350378f218a4595c3cb6a2be7158dde90ab110f2b0015b601a44294991c4c06", func := "loop.example/widgetroom/laws.FnHitNode", spec := "fnHitNode", unfollowed := true, recurses := true, apart := false }
def FnHitNodeSaid : Prop := fnHitNodeRow.holds Tryz.pinned (OpenSpec.ofChange fnHitNodeSpec)

/-- ITS FALSE NEIGHBOUR: 'it returns false'. Refute it at one input. -/
def fnHitNodeWrong : ChangeSpec := { name := "fnHitNode", fn := fun _ => fun
  | [d] => { results := [.lit (.bool false)], args := [d] }
  | _ => none }
def FnHitNodeWrongFalsely : Prop := fnHitNodeRow.holds Tryz.pinned (OpenSpec.ofChange fnHitNodeWrong)

/-- 'laws.FnHiddenNodes': WHATEVER THE INPUT: true; the input reads as it did. -/
def fnHiddenNodesSpec : ChangeSpec := { name := "fnHiddenNodes", fn := fun _ => fun
  | [d] => { results := [.lit (.bool true)], args := [d] }
  | _ => none }
def fnHiddenNodesRow : OpenClaim := { program := "ytfnpdlnepjhljaagreat", sum := "9350378f218a4595c3cb6a2be7158dde90ab110f2b0015b601a44294991c4c06", func := "loop.example/widgetroom/laws.FnHiddenNodes", spec := "fnHiddenNodes", unfollowed := true, recurses := true, apart := false }
def FnHiddenNodesSaid : Prop := fnHiddenNodesRow.holds Tryz.pinned (OpenSpec.ofChange fnHiddenNodesSpec)

/-- ITS FALSE NEIGHBOUR: 'it returns false'. Refute it at one input. -/
def fnHiddenNodesWrong : ChangeSpec := { name := "fnHiddenNodes", fn := fun _ => fun
  | [d] => { results := [.lit (.bool false)], args := [d] }
  | _ => none }
def FnHiddenNodesWrongFalsely : Prop := fnHiddenNodesRow.holds Tryz.pinned (OpenSpec.ofChange fnHiddenNodesWrong)

/-- 'laws.FnClippedNodes': WHATEVER THE INPUT: true; the input reads as it did. -/
def fnClippedNodesSpec : ChangeSpec := { name := "fnClippedNodes", fn := fun _ => fun
  | [d] => { results := [.lit (.bool true)], args := [d] }
  | _ => none }
def fnClippedNodesRow : OpenClaim := { program := "ytfnpdlnepjhljaagreat", sum := "9350378f218a4595c3cb6a2be7158dde90ab110f2b0015b601a44294991c4c06", func := "loop.example/widgetroom/laws.FnClippedNodes", spec := "fnClippedNodes", unfollowed := true, recurses := true, apart := false }
def FnClippedNodesSaid : Prop := fnClippedNodesRow.holds Tryz.pinned (OpenSpec.ofChange fnClippedNodesSpec)

/-- ITS FALSE NEIGHBOUR: 'it returns false'. Refute it at one input. -/
def fnClippedNodesWrong : ChangeSpec := { name := "fnClippedNodes", fn := fun _ => fun
  | [d] => { results := [.lit (.bool false)], args := [d] }
  | _ => none }
def FnClippedNodesWrongFalsely : Prop := fnClippedNodesRow.holds Tryz.pinned (OpenSpec.ofChange fnClippedNodesWrong)

/-- 'laws.FnOverlapsIn': WHATEVER THE INPUT: true; the input reads as it did. -/
def fnOverlapsInSpec : ChangeSpec := { name := "fnOverlapsIn", fn := fun _ => fun
  | [d] => { results := [.lit (.bool true)], args := [d] }
  | _ => none }
def fnOverlapsInRow : OpenClaim := { program := "ytfnpdlnepjhljaagreat", sum := "9350378f218a4595c3cb6a2be7158dde90ab110f2b0015b601a44294991c4c06", func := "loop.example/widgetroom/laws.FnOverlapsIn", spec := "fnOverlapsIn", unfollowed := true, recurses := true, apart := false }
def FnOverlapsInSaid : Prop := fnOverlapsInRow.holds Tryz.pinned (OpenSpec.ofChange fnOverlapsInSpec)

/-- ITS FALSE NEIGHBOUR: 'it returns false'. Refute it at one input. -/
def fnOverlapsInWrong : ChangeSpec := { name := "fnOverlapsIn", fn := fun _ => fun
  | [d] => { results := [.lit (.bool false)], args := [d] }
  | _ => none }
def FnOverlapsInWrongFalsely : Prop := fnOverlapsInRow.holds Tryz.pinned (OpenSpec.ofChange fnOverlapsInWrong)

/-- 'laws.FnCutNodes': WHATEVER THE INPUT: true; the input reads as it did. -/
def fnCutNodesSpec : ChangeSpec := { name := "fnCutNodes", fn := fun _ => fun
  | [d] => { results := [.lit (.bool true)], args := [d] }
  | _ => none }
def fnCutNodesRow : OpenClaim := { program := "ytfnpdlnepjhljaagreat", sum := "9350378f218a4595c3cb6a2be7158dde90ab110f2b0015b601a44294991c4c06", func := "loop.example/widgetroom/laws.FnCutNodes", spec := "fnCutNodes", unfollowed := true, recurses := true, apart := false }
def FnCutNodesSaid : Prop := fnCutNodesRow.holds Tryz.pinned (OpenSpec.ofChange fnCutNodesSpec)

/-- ITS FALSE NEIGHBOUR: 'it returns false'. Refute it at one input. -/
def fnCutNodesWrong : ChangeSpec := { name := "fnCutNodes", fn := fun _ => fun
  | [d] => { results := [.lit (.bool false)], args := [d] }
  | _ => none }
def FnCutNodesWrongFalsely : Prop := fnCutNodesRow.holds Tryz.pinned (OpenSpec.ofChange fnCutNodesWrong)

/- THE SECOND FORM. 'bulk': how many values and letters a reading holds, each counted each time it is reached (what is shared counts as often as it is met; a slice's spare places count too). A statement '..UptoSaid' is the law's where the arguments, and the package variables that the reading takes, are together of bulk at most 1048576: NARROWER than '..Said'. Prove '..Said' where nothing that the law and all that it calls make is longer than what came in: it says more and counts as full. Else prove '..UptoSaid'. A law counts once. -/
mutual
def uptoBulk {H : Type} : DataW H → Nat
  | .lit (.string bytes) => bytes.length + 1
  | .lit _ => 1
  | .nil => 1
  | .ptr d => uptoBulk d + 1
  | .slice elems spare => uptoBulkAll elems + uptoBulkAll spare + 1
  | .agg parts => uptoBulkAll parts + 1
  | .iface _ d => uptoBulk d + 1
  | .map entries => uptoBulkEntries entries + 1
  | .held _ => 1
def uptoBulkAll {H : Type} : List (DataW H) → Nat
  | [] => 0
  | d :: r => uptoBulk d + uptoBulkAll r
def uptoBulkEntries {H : Type} : List (Lit × DataW H) → Nat
  | [] => 0
  | x :: r => uptoBulkEntry x + uptoBulkEntries r
def uptoBulkEntry {H : Type} : Lit × DataW H → Nat
  | (.string bytes, d) => bytes.length + uptoBulk d + 1
  | (_, d) => uptoBulk d + 1
 end
def uptoSmall : (H : Type) → List (DataW H) → Bool := fun _ ds => decide (uptoBulkAll ds ≤ 1048576)
def OpenSpec.upto (s : _root_.Go.ChangeSpec) : _root_.Go.OpenSpec := { _root_.Go.OpenSpec.ofChange s with cond := some uptoSmall }

/-- 'laws.FnLayoutTree', WHERE WHAT IT READS IS OF BULK AT MOST 1048576: true; the input reads as it did. -/
def fnLayoutTreeUptoRow : OpenClaim := { program := "ytfnpdlnepjhljaagreat", sum := "9350378f218a4595c3cb6a2be7158dde90ab110f2b0015b601a44294991c4c06", func := "loop.example/widgetroom/laws.FnLayoutTree", spec := "fnLayoutTree", unfollowed := true, recurses := true, apart := false, narrowed := true }
def FnLayoutTreeUptoSaid : Prop := fnLayoutTreeUptoRow.holds Tryz.pinned (OpenSpec.upto fnLayoutTreeSpec)

/-- 'laws.FnLayoutTreePack', WHERE WHAT IT READS IS OF BULK AT MOST 1048576: true; the input reads as it did. -/
def fnLayoutTreePackUptoRow : OpenClaim := { program := "ytfnpdlnepjhljaagreat", sum := "9350378f218a4595c3cb6a2be7158dde90ab110f2b0015b601a44294991c4c06", func := "loop.example/widgetroom/laws.FnLayoutTreePack", spec := "fnLayoutTreePack", unfollowed := true, recurses := true, apart := false, narrowed := true }
def FnLayoutTreePackUptoSaid : Prop := fnLayoutTreePackUptoRow.holds Tryz.pinned (OpenSpec.upto fnLayoutTreePackSpec)

/-- 'laws.FnMovedBy', WHERE WHAT IT READS IS OF BULK AT MOST 1048576: true; the input reads as it did. -/
def fnMovedByUptoRow : OpenClaim := { program := "ytfnpdlnepjhljaagreat", sum := "9350378f218a4595c3cb6a2be7158dde90ab110f2b0015b601a44294991c4c06", func := "loop.example/widgetroom/laws.FnMovedBy", spec := "fnMovedBy", unfollowed := true, recurses := true, apart := false, narrowed := true }
def FnMovedByUptoSaid : Prop := fnMovedByUptoRow.holds Tryz.pinned (OpenSpec.upto fnMovedBySpec)

/-- 'laws.FnNaturalLayout', WHERE WHAT IT READS IS OF BULK AT MOST 1048576: true; the input reads as it did. -/
def fnNaturalLayoutUptoRow : OpenClaim := { program := "ytfnpdlnepjhljaagreat", sum := "9350378f218a4595c3cb6a2be7158dde90ab110f2b0015b601a44294991c4c06", func := "loop.example/widgetroom/laws.FnNaturalLayout", spec := "fnNaturalLayout", unfollowed := true, recurses := true, apart := false, narrowed := true }
def FnNaturalLayoutUptoSaid : Prop := fnNaturalLayoutUptoRow.holds Tryz.pinned (OpenSpec.upto fnNaturalLayoutSpec)

/-- 'laws.FnSeenPart', WHERE WHAT IT READS IS OF BULK AT MOST 1048576: true; the input reads as it did. -/
def fnSeenPartUptoRow : OpenClaim := { program := "ytfnpdlnepjhljaagreat", sum := "9350378f218a4595c3cb6a2be7158dde90ab110f2b0015b601a44294991c4c06", func := "loop.example/widgetroom/laws.FnSeenPart", spec := "fnSeenPart", unfollowed := true, recurses := true, apart := false, narrowed := true }
def FnSeenPartUptoSaid : Prop := fnSeenPartUptoRow.holds Tryz.pinned (OpenSpec.upto fnSeenPartSpec)

/-- 'laws.FnHitNode', WHERE WHAT IT READS IS OF BULK AT MOST 1048576: true; the input reads as it did. -/
def fnHitNodeUptoRow : OpenClaim := { program := "ytfnpdlnepjhljaagreat", sum := "9350378f218a4595c3cb6a2be7158dde90ab110f2b0015b601a44294991c4c06", func := "loop.example/widgetroom/laws.FnHitNode", spec := "fnHitNode", unfollowed := true, recurses := true, apart := false, narrowed := true }
def FnHitNodeUptoSaid : Prop := fnHitNodeUptoRow.holds Tryz.pinned (OpenSpec.upto fnHitNodeSpec)

/-- 'laws.FnHiddenNodes', WHERE WHAT IT READS IS OF BULK AT MOST 1048576: true; the input reads as it did. -/
def fnHiddenNodesUptoRow : OpenClaim := { program := "ytfnpdlnepjhljaagreat", sum := "9350378f218a4595c3cb6a2be7158dde90ab110f2b0015b601a44294991c4c06", func := "loop.example/widgetroom/laws.FnHiddenNodes", spec := "fnHiddenNodes", unfollowed := true, recurses := true, apart := false, narrowed := true }
def FnHiddenNodesUptoSaid : Prop := fnHiddenNodesUptoRow.holds Tryz.pinned (OpenSpec.upto fnHiddenNodesSpec)

/-- 'laws.FnClippedNodes', WHERE WHAT IT READS IS OF BULK AT MOST 1048576: true; the input reads as it did. -/
def fnClippedNodesUptoRow : OpenClaim := { program := "ytfnpdlnepjhljaagreat", sum := "9350378f218a4595c3cb6a2be7158dde90ab110f2b0015b601a44294991c4c06", func := "loop.example/widgetroom/laws.FnClippedNodes", spec := "fnClippedNodes", unfollowed := true, recurses := true, apart := false, narrowed := true }
def FnClippedNodesUptoSaid : Prop := fnClippedNodesUptoRow.holds Tryz.pinned (OpenSpec.upto fnClippedNodesSpec)

/-- 'laws.FnOverlapsIn', WHERE WHAT IT READS IS OF BULK AT MOST 1048576: true; the input reads as it did. -/
def fnOverlapsInUptoRow : OpenClaim := { program := "ytfnpdlnepjhljaagreat", sum := "9350378f218a4595c3cb6a2be7158dde90ab110f2b0015b601a44294991c4c06", func := "loop.example/widgetroom/laws.FnOverlapsIn", spec := "fnOverlapsIn", unfollowed := true, recurses := true, apart := false, narrowed := true }
def FnOverlapsInUptoSaid : Prop := fnOverlapsInUptoRow.holds Tryz.pinned (OpenSpec.upto fnOverlapsInSpec)

/-- 'laws.FnCutNodes', WHERE WHAT IT READS IS OF BULK AT MOST 1048576: true; the input reads as it did. -/
def fnCutNodesUptoRow : OpenClaim := { program := "ytfnpdlnepjhljaagreat", sum := "9350378f218a4595c3cb6a2be7158dde90ab110f2b0015b601a44294991c4c06", func := "loop.example/widgetroom/laws.FnCutNodes", spec := "fnCutNodes", unfollowed := true, recurses := true, apart := false, narrowed := true }
def FnCutNodesUptoSaid : Prop := fnCutNodesUptoRow.holds Tryz.pinned (OpenSpec.upto fnCutNodesSpec)

end Rows
end Go.Proofs.YtfnpdlnepjhljaaGreat
