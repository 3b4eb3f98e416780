/-
  No cell of these rows narrows 'for every input' (looked for: loops, veiled, ifaces, maps, wideKeys, modest, calm, conditions, laid).
  DERIVED. THE GIVEN ROWS OF THIS SEAT. 6 by the template 'for every input the law returns true; each argument reads behind the call as it read before'; 0 by the template 'total and deterministic' (their statements: YtmadamabcgcclaaTotals.lean).
  GIVEN WITH THE SEED: the statements are not yours to turn. If you find one false, say at which input.
  Laid BY PROGRAM, IN A SANDBOX (cutbox-rows.mjs): the forced cells as the released guide's own fill.sh prints them over the translation fd8f62e6c50f953a… (all of the seat's roots in one cut). By AI agents, Wed Nov 11 2026. No macro, syntax, notation, axiom, sorry.
-/
import Derived.Test.YtmadamabcgcclaaChecked
import GoSem.Claim
import GoSem.ClaimJoined
import GoSem.ClaimMapViews
import Derived.JoinedTies
import Derived.KernelRfl
namespace Go.Proofs.Ytmadamabcgcclaa
/- THE CELL 'sum', in the pinned program and in every row, IS THE sha256 OF THE DUMP (.gsa) THAT YtmadamabcgcclaaProg.lean LOADS. Nothing in Lean hashes anything: it is a label: what it is worth is what the hold of that sum in a sandbox is worth. -/
noncomputable def Try.pinned : Pinned := { name := "ytmadamabcgcclaa", sum := "fd8f62e6c50f953a22c9b344d0da3b2ec3cfbc58ca7a6c2f4e8cb9230c643aac", checked := Try.checked }
namespace Rows
def none {H : Type} : Left H := { results := [], args := [] }

/-- 'laws.FnExactValidRect': WHATEVER THE INPUT: true; the input reads as it did. -/
def fnExactValidRectSpec : ChangeSpec := { name := "fnExactValidRect", fn := fun _ => fun
  | [d] => { results := [.lit (.bool true)], args := [d] }
  | _ => none }
def fnExactValidRectRow : OpenClaim := { program := "ytmadamabcgcclaa", sum := "fd8f62e6c50f953a22c9b344d0da3b2ec3cfbc58ca7a6c2f4e8cb9230c643aac", func := "loop.example/widgetroom/laws.FnExactValidRect", spec := "fnExactValidRect", apart := false }
def FnExactValidRectSaid : Prop := fnExactValidRectRow.holds Try.pinned (OpenSpec.ofChange fnExactValidRectSpec)

/-- ITS FALSE NEIGHBOUR: 'it returns false'. Refute it at one input. -/
def fnExactValidRectWrong : ChangeSpec := { name := "fnExactValidRect", fn := fun _ => fun
  | [d] => { results := [.lit (.bool false)], args := [d] }
  | _ => none }
def FnExactValidRectWrongFalsely : Prop := fnExactValidRectRow.holds Try.pinned (OpenSpec.ofChange fnExactValidRectWrong)

/-- 'laws.FnExactHasPoint': WHATEVER THE INPUT: true; the input reads as it did. -/
def fnExactHasPointSpec : ChangeSpec := { name := "fnExactHasPoint", fn := fun _ => fun
  | [d1, d2, d3] => { results := [.lit (.bool true)], args := [d1, d2, d3] }
  | _ => none }
def fnExactHasPointRow : OpenClaim := { program := "ytmadamabcgcclaa", sum := "fd8f62e6c50f953a22c9b344d0da3b2ec3cfbc58ca7a6c2f4e8cb9230c643aac", func := "loop.example/widgetroom/laws.FnExactHasPoint", spec := "fnExactHasPoint", apart := false }
def FnExactHasPointSaid : Prop := fnExactHasPointRow.holds Try.pinned (OpenSpec.ofChange fnExactHasPointSpec)

/-- ITS FALSE NEIGHBOUR: 'it returns false'. Refute it at one input. -/
def fnExactHasPointWrong : ChangeSpec := { name := "fnExactHasPoint", fn := fun _ => fun
  | [d1, d2, d3] => { results := [.lit (.bool false)], args := [d1, d2, d3] }
  | _ => none }
def FnExactHasPointWrongFalsely : Prop := fnExactHasPointRow.holds Try.pinned (OpenSpec.ofChange fnExactHasPointWrong)

/-- 'laws.FnExactMeetRects': WHATEVER THE INPUT: true; the input reads as it did. -/
def fnExactMeetRectsSpec : ChangeSpec := { name := "fnExactMeetRects", fn := fun _ => fun
  | [d1, d2] => { results := [.lit (.bool true)], args := [d1, d2] }
  | _ => none }
def fnExactMeetRectsRow : OpenClaim := { program := "ytmadamabcgcclaa", sum := "fd8f62e6c50f953a22c9b344d0da3b2ec3cfbc58ca7a6c2f4e8cb9230c643aac", func := "loop.example/widgetroom/laws.FnExactMeetRects", spec := "fnExactMeetRects", apart := false }
def FnExactMeetRectsSaid : Prop := fnExactMeetRectsRow.holds Try.pinned (OpenSpec.ofChange fnExactMeetRectsSpec)

/-- ITS FALSE NEIGHBOUR: 'it returns false'. Refute it at one input. -/
def fnExactMeetRectsWrong : ChangeSpec := { name := "fnExactMeetRects", fn := fun _ => fun
  | [d1, d2] => { results := [.lit (.bool false)], args := [d1, d2] }
  | _ => none }
def FnExactMeetRectsWrongFalsely : Prop := fnExactMeetRectsRow.holds Try.pinned (OpenSpec.ofChange fnExactMeetRectsWrong)

/-- 'laws.FnExactCoverRects': WHATEVER THE INPUT: true; the input reads as it did. -/
def fnExactCoverRectsSpec : ChangeSpec := { name := "fnExactCoverRects", fn := fun _ => fun
  | [d1, d2] => { results := [.lit (.bool true)], args := [d1, d2] }
  | _ => none }
def fnExactCoverRectsRow : OpenClaim := { program := "ytmadamabcgcclaa", sum := "fd8f62e6c50f953a22c9b344d0da3b2ec3cfbc58ca7a6c2f4e8cb9230c643aac", func := "loop.example/widgetroom/laws.FnExactCoverRects", spec := "fnExactCoverRects", apart := false }
def FnExactCoverRectsSaid : Prop := fnExactCoverRectsRow.holds Try.pinned (OpenSpec.ofChange fnExactCoverRectsSpec)

/-- ITS FALSE NEIGHBOUR: 'it returns false'. Refute it at one input. -/
def fnExactCoverRectsWrong : ChangeSpec := { name := "fnExactCoverRects", fn := fun _ => fun
  | [d1, d2] => { results := [.lit (.bool false)], args := [d1, d2] }
  | _ => none }
def FnExactCoverRectsWrongFalsely : Prop := fnExactCoverRectsRow.holds Try.pinned (OpenSpec.ofChange fnExactCoverRectsWrong)

/-- 'laws.FnExactInsideRect': WHATEVER THE INPUT: true; the input reads as it did. -/
def fnExactInsideRectSpec : ChangeSpec := { name := "fnExactInsideRect", fn := fun _ => fun
  | [d1, d2] => { results := [.lit (.bool true)], args := [d1, d2] }
  | _ => none }
def fnExactInsideRectRow : OpenClaim := { program := "ytmadamabcgcclaa", sum := "fd8f62e6c50f953a22c9b344d0da3b2ec3cfbc58ca7a6c2f4e8cb9230c643aac", func := "loop.example/widgetroom/laws.FnExactInsideRect", spec := "fnExactInsideRect", apart := false }
def FnExactInsideRectSaid : Prop := fnExactInsideRectRow.holds Try.pinned (OpenSpec.ofChange fnExactInsideRectSpec)

/-- ITS FALSE NEIGHBOUR: 'it returns false'. Refute it at one input. -/
def fnExactInsideRectWrong : ChangeSpec := { name := "fnExactInsideRect", fn := fun _ => fun
  | [d1, d2] => { results := [.lit (.bool false)], args := [d1, d2] }
  | _ => none }
def FnExactInsideRectWrongFalsely : Prop := fnExactInsideRectRow.holds Try.pinned (OpenSpec.ofChange fnExactInsideRectWrong)

/-- 'laws.FnExactMoveRect': WHATEVER THE INPUT: true; the input reads as it did. -/
def fnExactMoveRectSpec : ChangeSpec := { name := "fnExactMoveRect", fn := fun _ => fun
  | [d1, d2, d3] => { results := [.lit (.bool true)], args := [d1, d2, d3] }
  | _ => none }
def fnExactMoveRectRow : OpenClaim := { program := "ytmadamabcgcclaa", sum := "fd8f62e6c50f953a22c9b344d0da3b2ec3cfbc58ca7a6c2f4e8cb9230c643aac", func := "loop.example/widgetroom/laws.FnExactMoveRect", spec := "fnExactMoveRect", apart := false }
def FnExactMoveRectSaid : Prop := fnExactMoveRectRow.holds Try.pinned (OpenSpec.ofChange fnExactMoveRectSpec)

/-- ITS FALSE NEIGHBOUR: 'it returns false'. Refute it at one input. -/
def fnExactMoveRectWrong : ChangeSpec := { name := "fnExactMoveRect", fn := fun _ => fun
  | [d1, d2, d3] => { results := [.lit (.bool false)], args := [d1, d2, d3] }
  | _ => none }
def FnExactMoveRectWrongFalsely : Prop := fnExactMoveRectRow.holds Try.pinned (OpenSpec.ofChange fnExactMoveRectWrong)

/- THE SECOND FORM. 'bulk': how many values and letters a reading holds, each counted each time it is reached (what is shared counts as often as it is met; a slice's spare places count too). A statement '..UptoSaid' is the law's where the arguments, and the package variables that the reading takes, are together of bulk at most 1048576: NARROWER than '..Said'. Prove '..Said' where nothing that the law and all that it calls make is longer than what came in: it says more and counts as full. Else prove '..UptoSaid'. A law counts once. -/
mutual
def uptoBulk {H : Type} : DataW H → Nat
  | .lit (.string bytes) => bytes.length + 1
  | .lit _ => 1
  | .nil => 1
  | .ptr d => uptoBulk d + 1
  | .slice elems spare => uptoBulkAll elems + uptoBulkAll spare + 1
  | .agg parts => uptoBulkAll parts + 1
  | .iface _ d => uptoBulk d + 1
  | .map entries => uptoBulkEntries entries + 1
  | .held _ => 1
def uptoBulkAll {H : Type} : List (DataW H) → Nat
  | [] => 0
  | d :: r => uptoBulk d + uptoBulkAll r
def uptoBulkEntries {H : Type} : List (Lit × DataW H) → Nat
  | [] => 0
  | x :: r => uptoBulkEntry x + uptoBulkEntries r
def uptoBulkEntry {H : Type} : Lit × DataW H → Nat
  | (.string bytes, d) => bytes.length + uptoBulk d + 1
  | (_, d) => uptoBulk d + 1
 end
def uptoSmall : (H : Type) → List (DataW H) → Bool := fun _ ds => decide (uptoBulkAll ds ≤ 1048576)
def OpenSpec.upto (s : _root_.Go.ChangeSpec) : _root_.Go.OpenSpec := { _root_.Go.OpenSpec.ofChange s with cond := some uptoSmall }

/-- 'laws.FnExactValidRect', WHERE WHAT IT READS IS OF BULK AT MOST 1048576: true; the input reads as it did. -/
def fnExactValidRectUptoRow : OpenClaim := { program := "ytmadamabcgcclaa", sum := "fd8f62e6c50f953a22c9b344d0da3b2ec3cfbc58ca7a6c2f4e8cb9230c643aac", func := "loop.example/widgetroom/laws.FnExactValidRect", spec := "fnExactValidRect", apart := false, narrowed := true }
def FnExactValidRectUptoSaid : Prop := fnExactValidRectUptoRow.holds Try.pinned (OpenSpec.upto fnExactValidRectSpec)

/-- 'laws.FnExactHasPoint', WHERE WHAT IT READS IS OF BULK AT MOST 1048576: true; the input reads as it did. -/
def fnExactHasPointUptoRow : OpenClaim := { program := "ytmadamabcgcclaa", sum := "fd8f62e6c50f953a22c9b344d0da3b2ec3cfbc58ca7a6c2f4e8cb9230c643aac", func := "loop.example/widgetroom/laws.FnExactHasPoint", spec := "fnExactHasPoint", apart := false, narrowed := true }
def FnExactHasPointUptoSaid : Prop := fnExactHasPointUptoRow.holds Try.pinned (OpenSpec.upto fnExactHasPointSpec)

/-- 'laws.FnExactMeetRects', WHERE WHAT IT READS IS OF BULK AT MOST 1048576: true; the input reads as it did. -/
def fnExactMeetRectsUptoRow : OpenClaim := { program := "ytmadamabcgcclaa", sum := "fd8f62e6c50f953a22c9b344d0da3b2ec3cfbc58ca7a6c2f4e8cb9230c643aac", func := "loop.example/widgetroom/laws.FnExactMeetRects", spec := "fnExactMeetRects", apart := false, narrowed := true }
def FnExactMeetRectsUptoSaid : Prop := fnExactMeetRectsUptoRow.holds Try.pinned (OpenSpec.upto fnExactMeetRectsSpec)

/-- 'laws.FnExactCoverRects', WHERE WHAT IT READS IS OF BULK AT MOST 1048576: true; the input reads as it did. -/
def fnExactCoverRectsUptoRow : OpenClaim := { program := "ytmadamabcgcclaa", sum := "fd8f62e6c50f953a22c9b344d0da3b2ec3cfbc58ca7a6c2f4e8cb9230c643aac", func := "loop.example/widgetroom/laws.FnExactCoverRects", spec := "fnExactCoverRects", apart := false, narrowed := true }
def FnExactCoverRectsUptoSaid : Prop := fnExactCoverRectsUptoRow.holds Try.pinned (OpenSpec.upto fnExactCoverRectsSpec)

/-- 'laws.FnExactInsideRect', WHERE WHAT IT READS IS OF BULK AT MOST 1048576: true; the input reads as it did. -/
def fnExactInsideRectUptoRow : OpenClaim := { program := "ytmadamabcgcclaa", sum := "fd8f62e6c50f953a22c9b344d0da3b2ec3cfbc58ca7a6c2f4e8cb9230c643aac", func := "loop.example/widgetroom/laws.FnExactInsideRect", spec := "fnExactInsideRect", apart := false, narrowed := true }
def FnExactInsideRectUptoSaid : Prop := fnExactInsideRectUptoRow.holds Try.pinned (OpenSpec.upto fnExactInsideRectSpec)

/-- 'laws.FnExactMoveRect', WHERE WHAT IT READS IS OF BULK AT MOST 1048576: true; the input reads as it did. -/
def fnExactMoveRectUptoRow : OpenClaim := { program := "ytmadamabcgcclaa", sum := "fd8f62e6c50f953a22c9b344d0da3b2ec3cfbc58ca7a6c2f4e8cb9230c643aac", func := "loop.example/widgetroom/laws.FnExactMoveRect", spec := "fnExactMoveRect", apart := false, narrowed := true }
def FnExactMoveRectUptoSaid : Prop := fnExactMoveRectUptoRow.holds Try.pinned (OpenSpec.upto fnExactMoveRectSpec)

end Rows
end Go.Proofs.Ytmadamabcgcclaa
