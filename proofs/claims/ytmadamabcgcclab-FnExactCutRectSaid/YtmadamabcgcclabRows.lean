/-
  No cell of these rows narrows 'for every input' (looked for: loops, veiled, ifaces, maps, wideKeys, modest, calm, conditions, laid).
  DERIVED. THE GIVEN ROWS OF THIS SEAT. 6 by the template 'for every input the law returns true; each argument reads behind the call as it read before'; 0 by the template 'total and deterministic' (their statements: YtmadamabcgcclabTotals.lean).
  GIVEN WITH THE SEED: the statements are not yours to turn. If you find one false, say at which input.
  Laid BY PROGRAM, IN A SANDBOX (cutbox-rows.mjs): the forced cells as the released guide's own fill.sh prints them over the translation b0b653b9bd8fb2af… (all of the seat's roots in one cut). By AI agents, Wed Nov 11 2026. No macro, syntax, notation, axiom, sorry.
-/
import Derived.Test.YtmadamabcgcclabChecked
import GoSem.Claim
import GoSem.ClaimJoined
import GoSem.ClaimMapViews
import Derived.JoinedTies
import Derived.KernelRfl
namespace Go.Proofs.Ytmadamabcgcclab
/- THE CELL 'sum', in the pinned program and in every row, IS THE sha256 OF THE DUMP (.gsa) THAT YtmadamabcgcclabProg.lean LOADS. Nothing in Lean hashes anything: it is a label: what it is worth is what the hold of that sum in a sandbox is worth. -/
noncomputable def Try.pinned : Pinned := { name := "ytmadamabcgcclab", sum := "b0b653b9bd8fb2af843023b8661d6115578a64e0bfbfdd952ad520b724f4d111", checked := Try.checked }
namespace Rows
def none {H : Type} : Left H := { results := [], args := [] }

/-- 'laws.FnExactInsetRect': WHATEVER THE INPUT: true; the input reads as it did. -/
def fnExactInsetRectSpec : ChangeSpec := { name := "fnExactInsetRect", fn := fun _ => fun
  | [d1, d2, d3] => { results := [.lit (.bool true)], args := [d1, d2, d3] }
  | _ => none }
def fnExactInsetRectRow : OpenClaim := { program := "ytmadamabcgcclab", sum := "b0b653b9bd8fb2af843023b8661d6115578a64e0bfbfdd952ad520b724f4d111", func := "loop.example/widgetroom/laws.FnExactInsetRect", spec := "fnExactInsetRect", apart := false }
def FnExactInsetRectSaid : Prop := fnExactInsetRectRow.holds Try.pinned (OpenSpec.ofChange fnExactInsetRectSpec)

/-- ITS FALSE NEIGHBOUR: 'it returns false'. Refute it at one input. -/
def fnExactInsetRectWrong : ChangeSpec := { name := "fnExactInsetRect", fn := fun _ => fun
  | [d1, d2, d3] => { results := [.lit (.bool false)], args := [d1, d2, d3] }
  | _ => none }
def FnExactInsetRectWrongFalsely : Prop := fnExactInsetRectRow.holds Try.pinned (OpenSpec.ofChange fnExactInsetRectWrong)

/-- 'laws.FnExactCutRect': WHATEVER THE INPUT: true; the input reads as it did. -/
def fnExactCutRectSpec : ChangeSpec := { name := "fnExactCutRect", fn := fun _ => fun
  | [d1, d2, d3] => { results := [.lit (.bool true)], args := [d1, d2, d3] }
  | _ => none }
def fnExactCutRectRow : OpenClaim := { program := "ytmadamabcgcclab", sum := "b0b653b9bd8fb2af843023b8661d6115578a64e0bfbfdd952ad520b724f4d111", func := "loop.example/widgetroom/laws.FnExactCutRect", spec := "fnExactCutRect", unfollowed := true, recurses := true, apart := false }
def FnExactCutRectSaid : Prop := fnExactCutRectRow.holds Try.pinned (OpenSpec.ofChange fnExactCutRectSpec)

/-- ITS FALSE NEIGHBOUR: 'it returns false'. Refute it at one input. -/
def fnExactCutRectWrong : ChangeSpec := { name := "fnExactCutRect", fn := fun _ => fun
  | [d1, d2, d3] => { results := [.lit (.bool false)], args := [d1, d2, d3] }
  | _ => none }
def FnExactCutRectWrongFalsely : Prop := fnExactCutRectRow.holds Try.pinned (OpenSpec.ofChange fnExactCutRectWrong)

/-- 'laws.FnExactAnchorRect': WHATEVER THE INPUT: true; the input reads as it did. -/
def fnExactAnchorRectSpec : ChangeSpec := { name := "fnExactAnchorRect", fn := fun _ => fun
  | [d1, d2, d3, d4] => { results := [.lit (.bool true)], args := [d1, d2, d3, d4] }
  | _ => none }
def fnExactAnchorRectRow : OpenClaim := { program := "ytmadamabcgcclab", sum := "b0b653b9bd8fb2af843023b8661d6115578a64e0bfbfdd952ad520b724f4d111", func := "loop.example/widgetroom/laws.FnExactAnchorRect", spec := "fnExactAnchorRect", apart := false }
def FnExactAnchorRectSaid : Prop := fnExactAnchorRectRow.holds Try.pinned (OpenSpec.ofChange fnExactAnchorRectSpec)

/-- ITS FALSE NEIGHBOUR: 'it returns false'. Refute it at one input. -/
def fnExactAnchorRectWrong : ChangeSpec := { name := "fnExactAnchorRect", fn := fun _ => fun
  | [d1, d2, d3, d4] => { results := [.lit (.bool false)], args := [d1, d2, d3, d4] }
  | _ => none }
def FnExactAnchorRectWrongFalsely : Prop := fnExactAnchorRectRow.holds Try.pinned (OpenSpec.ofChange fnExactAnchorRectWrong)

/-- 'laws.FnExactAreaOf': WHATEVER THE INPUT: true; the input reads as it did. -/
def fnExactAreaOfSpec : ChangeSpec := { name := "fnExactAreaOf", fn := fun _ => fun
  | [d] => { results := [.lit (.bool true)], args := [d] }
  | _ => none }
def fnExactAreaOfRow : OpenClaim := { program := "ytmadamabcgcclab", sum := "b0b653b9bd8fb2af843023b8661d6115578a64e0bfbfdd952ad520b724f4d111", func := "loop.example/widgetroom/laws.FnExactAreaOf", spec := "fnExactAreaOf", apart := false }
def FnExactAreaOfSaid : Prop := fnExactAreaOfRow.holds Try.pinned (OpenSpec.ofChange fnExactAreaOfSpec)

/-- ITS FALSE NEIGHBOUR: 'it returns false'. Refute it at one input. -/
def fnExactAreaOfWrong : ChangeSpec := { name := "fnExactAreaOf", fn := fun _ => fun
  | [d] => { results := [.lit (.bool false)], args := [d] }
  | _ => none }
def FnExactAreaOfWrongFalsely : Prop := fnExactAreaOfRow.holds Try.pinned (OpenSpec.ofChange fnExactAreaOfWrong)

/-- 'laws.FnInsetRect': WHATEVER THE INPUT: true; the input reads as it did. -/
def fnInsetRectSpec : ChangeSpec := { name := "fnInsetRect", fn := fun _ => fun
  | [d] => { results := [.lit (.bool true)], args := [d] }
  | _ => none }
def fnInsetRectRow : OpenClaim := { program := "ytmadamabcgcclab", sum := "b0b653b9bd8fb2af843023b8661d6115578a64e0bfbfdd952ad520b724f4d111", func := "loop.example/widgetroom/laws.FnInsetRect", spec := "fnInsetRect", apart := false }
def FnInsetRectSaid : Prop := fnInsetRectRow.holds Try.pinned (OpenSpec.ofChange fnInsetRectSpec)

/-- ITS FALSE NEIGHBOUR: 'it returns false'. Refute it at one input. -/
def fnInsetRectWrong : ChangeSpec := { name := "fnInsetRect", fn := fun _ => fun
  | [d] => { results := [.lit (.bool false)], args := [d] }
  | _ => none }
def FnInsetRectWrongFalsely : Prop := fnInsetRectRow.holds Try.pinned (OpenSpec.ofChange fnInsetRectWrong)

/-- 'laws.FnAnchorRect': WHATEVER THE INPUT: true; the input reads as it did. -/
def fnAnchorRectSpec : ChangeSpec := { name := "fnAnchorRect", fn := fun _ => fun
  | [d] => { results := [.lit (.bool true)], args := [d] }
  | _ => none }
def fnAnchorRectRow : OpenClaim := { program := "ytmadamabcgcclab", sum := "b0b653b9bd8fb2af843023b8661d6115578a64e0bfbfdd952ad520b724f4d111", func := "loop.example/widgetroom/laws.FnAnchorRect", spec := "fnAnchorRect", apart := false }
def FnAnchorRectSaid : Prop := fnAnchorRectRow.holds Try.pinned (OpenSpec.ofChange fnAnchorRectSpec)

/-- ITS FALSE NEIGHBOUR: 'it returns false'. Refute it at one input. -/
def fnAnchorRectWrong : ChangeSpec := { name := "fnAnchorRect", fn := fun _ => fun
  | [d] => { results := [.lit (.bool false)], args := [d] }
  | _ => none }
def FnAnchorRectWrongFalsely : Prop := fnAnchorRectRow.holds Try.pinned (OpenSpec.ofChange fnAnchorRectWrong)

/- THE SECOND FORM. 'bulk': how many values and letters a reading holds, each counted each time it is reached (what is shared counts as often as it is met; a slice's spare places count too). A statement '..UptoSaid' is the law's where the arguments, and the package variables that the reading takes, are together of bulk at most 1048576: NARROWER than '..Said'. Prove '..Said' where nothing that the law and all that it calls make is longer than what came in: it says more and counts as full. Else prove '..UptoSaid'. A law counts once. -/
mutual
def uptoBulk {H : Type} : DataW H → Nat
  | .lit (.string bytes) => bytes.length + 1
  | .lit _ => 1
  | .nil => 1
  | .ptr d => uptoBulk d + 1
  | .slice elems spare => uptoBulkAll elems + uptoBulkAll spare + 1
  | .agg parts => uptoBulkAll parts + 1
  | .iface _ d => uptoBulk d + 1
  | .map entries => uptoBulkEntries entries + 1
  | .held _ => 1
def uptoBulkAll {H : Type} : List (DataW H) → Nat
  | [] => 0
  | d :: r => uptoBulk d + uptoBulkAll r
def uptoBulkEntries {H : Type} : List (Lit × DataW H) → Nat
  | [] => 0
  | x :: r => uptoBulkEntry x + uptoBulkEntries r
def uptoBulkEntry {H : Type} : Lit × DataW H → Nat
  | (.string bytes, d) => bytes.length + uptoBulk d + 1
  | (_, d) => uptoBulk d + 1
 end
def uptoSmall : (H : Type) → List (DataW H) → Bool := fun _ ds => decide (uptoBulkAll ds ≤ 1048576)
def OpenSpec.upto (s : _root_.Go.ChangeSpec) : _root_.Go.OpenSpec := { _root_.Go.OpenSpec.ofChange s with cond := some uptoSmall }

/-- 'laws.FnExactInsetRect', WHERE WHAT IT READS IS OF BULK AT MOST 1048576: true; the input reads as it did. -/
def fnExactInsetRectUptoRow : OpenClaim := { program := "ytmadamabcgcclab", sum := "b0b653b9bd8fb2af843023b8661d6115578a64e0bfbfdd952ad520b724f4d111", func := "loop.example/widgetroom/laws.FnExactInsetRect", spec := "fnExactInsetRect", apart := false, narrowed := true }
def FnExactInsetRectUptoSaid : Prop := fnExactInsetRectUptoRow.holds Try.pinned (OpenSpec.upto fnExactInsetRectSpec)

/-- 'laws.FnExactCutRect', WHERE WHAT IT READS IS OF BULK AT MOST 1048576: true; the input reads as it did. -/
def fnExactCutRectUptoRow : OpenClaim := { program := "ytmadamabcgcclab", sum := "b0b653b9bd8fb2af843023b8661d6115578a64e0bfbfdd952ad520b724f4d111", func := "loop.example/widgetroom/laws.FnExactCutRect", spec := "fnExactCutRect", unfollowed := true, recurses := true, apart := false, narrowed := true }
def FnExactCutRectUptoSaid : Prop := fnExactCutRectUptoRow.holds Try.pinned (OpenSpec.upto fnExactCutRectSpec)

/-- 'laws.FnExactAnchorRect', WHERE WHAT IT READS IS OF BULK AT MOST 1048576: true; the input reads as it did. -/
def fnExactAnchorRectUptoRow : OpenClaim := { program := "ytmadamabcgcclab", sum := "b0b653b9bd8fb2af843023b8661d6115578a64e0bfbfdd952ad520b724f4d111", func := "loop.example/widgetroom/laws.FnExactAnchorRect", spec := "fnExactAnchorRect", apart := false, narrowed := true }
def FnExactAnchorRectUptoSaid : Prop := fnExactAnchorRectUptoRow.holds Try.pinned (OpenSpec.upto fnExactAnchorRectSpec)

/-- 'laws.FnExactAreaOf', WHERE WHAT IT READS IS OF BULK AT MOST 1048576: true; the input reads as it did. -/
def fnExactAreaOfUptoRow : OpenClaim := { program := "ytmadamabcgcclab", sum := "b0b653b9bd8fb2af843023b8661d6115578a64e0bfbfdd952ad520b724f4d111", func := "loop.example/widgetroom/laws.FnExactAreaOf", spec := "fnExactAreaOf", apart := false, narrowed := true }
def FnExactAreaOfUptoSaid : Prop := fnExactAreaOfUptoRow.holds Try.pinned (OpenSpec.upto fnExactAreaOfSpec)

/-- 'laws.FnInsetRect', WHERE WHAT IT READS IS OF BULK AT MOST 1048576: true; the input reads as it did. -/
def fnInsetRectUptoRow : OpenClaim := { program := "ytmadamabcgcclab", sum := "b0b653b9bd8fb2af843023b8661d6115578a64e0bfbfdd952ad520b724f4d111", func := "loop.example/widgetroom/laws.FnInsetRect", spec := "fnInsetRect", apart := false, narrowed := true }
def FnInsetRectUptoSaid : Prop := fnInsetRectUptoRow.holds Try.pinned (OpenSpec.upto fnInsetRectSpec)

/-- 'laws.FnAnchorRect', WHERE WHAT IT READS IS OF BULK AT MOST 1048576: true; the input reads as it did. -/
def fnAnchorRectUptoRow : OpenClaim := { program := "ytmadamabcgcclab", sum := "b0b653b9bd8fb2af843023b8661d6115578a64e0bfbfdd952ad520b724f4d111", func := "loop.example/widgetroom/laws.FnAnchorRect", spec := "fnAnchorRect", apart := false, narrowed := true }
def FnAnchorRectUptoSaid : Prop := fnAnchorRectUptoRow.holds Try.pinned (OpenSpec.upto fnAnchorRectSpec)

end Rows
end Go.Proofs.Ytmadamabcgcclab
