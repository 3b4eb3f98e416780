/-
  No cell of these rows narrows 'for every input' (looked for: loops, veiled, ifaces, maps, wideKeys, modest, calm, conditions, laid).
  DERIVED. THE GIVEN ROWS OF THIS SEAT. 6 by the template 'for every input the law returns true; each argument reads behind the call as it read before'; 0 by the template 'total and deterministic' (their statements: YtogpdpjheknkjadTotals.lean).
  GIVEN WITH THE SEED: the statements are not yours to turn. If you find one false, say at which input.
  Laid BY PROGRAM, IN A SANDBOX (cutbox-rows.mjs): the forced cells as the released guide's own fill.sh prints them over the translation e504719a9cf41350… (all of the seat's roots in one cut). By AI agents, Wed Nov 11 2026. No macro, syntax, notation, axiom, sorry.
-/
import Derived.Test.YtogpdpjheknkjadChecked
import GoSem.Claim
import GoSem.ClaimJoined
import GoSem.ClaimMapViews
import Derived.JoinedTies
import Derived.KernelRfl
namespace Go.Proofs.Ytogpdpjheknkjad
/- THE CELL 'sum', in the pinned program and in every row, IS THE sha256 OF THE DUMP (.gsa) THAT YtogpdpjheknkjadProg.lean LOADS. Nothing in Lean hashes anything: it is a label: what it is worth is what the hold of that sum in a sandbox is worth. -/
noncomputable def Try.pinned : Pinned := { name := "ytogpdpjheknkjad", sum := "e504719a9cf41350935fa640062800d700fd8efb348835fcacefe85905af9da7", checked := Try.checked }
namespace Rows
def none {H : Type} : Left H := { results := [], args := [] }

/-- 'laws.FnValidRect': WHATEVER THE INPUT: true; the input reads as it did. -/
def fnValidRectSpec : ChangeSpec := { name := "fnValidRect", fn := fun _ => fun
  | [d] => { results := [.lit (.bool true)], args := [d] }
  | _ => none }
def fnValidRectRow : OpenClaim := { program := "ytogpdpjheknkjad", sum := "e504719a9cf41350935fa640062800d700fd8efb348835fcacefe85905af9da7", func := "loop.example/widgetroom/laws.FnValidRect", spec := "fnValidRect", apart := false }
def FnValidRectSaid : Prop := fnValidRectRow.holds Try.pinned (OpenSpec.ofChange fnValidRectSpec)

/-- ITS FALSE NEIGHBOUR: 'it returns false'. Refute it at one input. -/
def fnValidRectWrong : ChangeSpec := { name := "fnValidRect", fn := fun _ => fun
  | [d] => { results := [.lit (.bool false)], args := [d] }
  | _ => none }
def FnValidRectWrongFalsely : Prop := fnValidRectRow.holds Try.pinned (OpenSpec.ofChange fnValidRectWrong)

/-- 'laws.FnHasPoint': WHATEVER THE INPUT: true; the input reads as it did. -/
def fnHasPointSpec : ChangeSpec := { name := "fnHasPoint", fn := fun _ => fun
  | [d] => { results := [.lit (.bool true)], args := [d] }
  | _ => none }
def fnHasPointRow : OpenClaim := { program := "ytogpdpjheknkjad", sum := "e504719a9cf41350935fa640062800d700fd8efb348835fcacefe85905af9da7", func := "loop.example/widgetroom/laws.FnHasPoint", spec := "fnHasPoint", apart := false }
def FnHasPointSaid : Prop := fnHasPointRow.holds Try.pinned (OpenSpec.ofChange fnHasPointSpec)

/-- ITS FALSE NEIGHBOUR: 'it returns false'. Refute it at one input. -/
def fnHasPointWrong : ChangeSpec := { name := "fnHasPoint", fn := fun _ => fun
  | [d] => { results := [.lit (.bool false)], args := [d] }
  | _ => none }
def FnHasPointWrongFalsely : Prop := fnHasPointRow.holds Try.pinned (OpenSpec.ofChange fnHasPointWrong)

/-- 'laws.FnMeetRects': WHATEVER THE INPUT: true; the input reads as it did. -/
def fnMeetRectsSpec : ChangeSpec := { name := "fnMeetRects", fn := fun _ => fun
  | [d] => { results := [.lit (.bool true)], args := [d] }
  | _ => none }
def fnMeetRectsRow : OpenClaim := { program := "ytogpdpjheknkjad", sum := "e504719a9cf41350935fa640062800d700fd8efb348835fcacefe85905af9da7", func := "loop.example/widgetroom/laws.FnMeetRects", spec := "fnMeetRects", apart := false }
def FnMeetRectsSaid : Prop := fnMeetRectsRow.holds Try.pinned (OpenSpec.ofChange fnMeetRectsSpec)

/-- ITS FALSE NEIGHBOUR: 'it returns false'. Refute it at one input. -/
def fnMeetRectsWrong : ChangeSpec := { name := "fnMeetRects", fn := fun _ => fun
  | [d] => { results := [.lit (.bool false)], args := [d] }
  | _ => none }
def FnMeetRectsWrongFalsely : Prop := fnMeetRectsRow.holds Try.pinned (OpenSpec.ofChange fnMeetRectsWrong)

/-- 'laws.FnMeetRectsPoint': WHATEVER THE INPUT: true; the input reads as it did. -/
def fnMeetRectsPointSpec : ChangeSpec := { name := "fnMeetRectsPoint", fn := fun _ => fun
  | [d] => { results := [.lit (.bool true)], args := [d] }
  | _ => none }
def fnMeetRectsPointRow : OpenClaim := { program := "ytogpdpjheknkjad", sum := "e504719a9cf41350935fa640062800d700fd8efb348835fcacefe85905af9da7", func := "loop.example/widgetroom/laws.FnMeetRectsPoint", spec := "fnMeetRectsPoint", apart := false }
def FnMeetRectsPointSaid : Prop := fnMeetRectsPointRow.holds Try.pinned (OpenSpec.ofChange fnMeetRectsPointSpec)

/-- ITS FALSE NEIGHBOUR: 'it returns false'. Refute it at one input. -/
def fnMeetRectsPointWrong : ChangeSpec := { name := "fnMeetRectsPoint", fn := fun _ => fun
  | [d] => { results := [.lit (.bool false)], args := [d] }
  | _ => none }
def FnMeetRectsPointWrongFalsely : Prop := fnMeetRectsPointRow.holds Try.pinned (OpenSpec.ofChange fnMeetRectsPointWrong)

/-- 'laws.FnCoverRects': WHATEVER THE INPUT: true; the input reads as it did. -/
def fnCoverRectsSpec : ChangeSpec := { name := "fnCoverRects", fn := fun _ => fun
  | [d] => { results := [.lit (.bool true)], args := [d] }
  | _ => none }
def fnCoverRectsRow : OpenClaim := { program := "ytogpdpjheknkjad", sum := "e504719a9cf41350935fa640062800d700fd8efb348835fcacefe85905af9da7", func := "loop.example/widgetroom/laws.FnCoverRects", spec := "fnCoverRects", apart := false }
def FnCoverRectsSaid : Prop := fnCoverRectsRow.holds Try.pinned (OpenSpec.ofChange fnCoverRectsSpec)

/-- ITS FALSE NEIGHBOUR: 'it returns false'. Refute it at one input. -/
def fnCoverRectsWrong : ChangeSpec := { name := "fnCoverRects", fn := fun _ => fun
  | [d] => { results := [.lit (.bool false)], args := [d] }
  | _ => none }
def FnCoverRectsWrongFalsely : Prop := fnCoverRectsRow.holds Try.pinned (OpenSpec.ofChange fnCoverRectsWrong)

/-- 'laws.FnInsideRect': WHATEVER THE INPUT: true; the input reads as it did. -/
def fnInsideRectSpec : ChangeSpec := { name := "fnInsideRect", fn := fun _ => fun
  | [d] => { results := [.lit (.bool true)], args := [d] }
  | _ => none }
def fnInsideRectRow : OpenClaim := { program := "ytogpdpjheknkjad", sum := "e504719a9cf41350935fa640062800d700fd8efb348835fcacefe85905af9da7", func := "loop.example/widgetroom/laws.FnInsideRect", spec := "fnInsideRect", apart := false }
def FnInsideRectSaid : Prop := fnInsideRectRow.holds Try.pinned (OpenSpec.ofChange fnInsideRectSpec)

/-- ITS FALSE NEIGHBOUR: 'it returns false'. Refute it at one input. -/
def fnInsideRectWrong : ChangeSpec := { name := "fnInsideRect", fn := fun _ => fun
  | [d] => { results := [.lit (.bool false)], args := [d] }
  | _ => none }
def FnInsideRectWrongFalsely : Prop := fnInsideRectRow.holds Try.pinned (OpenSpec.ofChange fnInsideRectWrong)

/- THE SECOND FORM. 'bulk': how many values and letters a reading holds, each counted each time it is reached (what is shared counts as often as it is met; a slice's spare places count too). A statement '..UptoSaid' is the law's where the arguments, and the package variables that the reading takes, are together of bulk at most 1048576: NARROWER than '..Said'. Prove '..Said' where nothing that the law and all that it calls make is longer than what came in: it says more and counts as full. Else prove '..UptoSaid'. A law counts once. -/
mutual
def uptoBulk {H : Type} : DataW H → Nat
  | .lit (.string bytes) => bytes.length + 1
  | .lit _ => 1
  | .nil => 1
  | .ptr d => uptoBulk d + 1
  | .slice elems spare => uptoBulkAll elems + uptoBulkAll spare + 1
  | .agg parts => uptoBulkAll parts + 1
  | .iface _ d => uptoBulk d + 1
  | .map entries => uptoBulkEntries entries + 1
  | .held _ => 1
def uptoBulkAll {H : Type} : List (DataW H) → Nat
  | [] => 0
  | d :: r => uptoBulk d + uptoBulkAll r
def uptoBulkEntries {H : Type} : List (Lit × DataW H) → Nat
  | [] => 0
  | x :: r => uptoBulkEntry x + uptoBulkEntries r
def uptoBulkEntry {H : Type} : Lit × DataW H → Nat
  | (.string bytes, d) => bytes.length + uptoBulk d + 1
  | (_, d) => uptoBulk d + 1
 end
def uptoSmall : (H : Type) → List (DataW H) → Bool := fun _ ds => decide (uptoBulkAll ds ≤ 1048576)
def OpenSpec.upto (s : _root_.Go.ChangeSpec) : _root_.Go.OpenSpec := { _root_.Go.OpenSpec.ofChange s with cond := some uptoSmall }

/-- 'laws.FnValidRect', WHERE WHAT IT READS IS OF BULK AT MOST 1048576: true; the input reads as it did. -/
def fnValidRectUptoRow : OpenClaim := { program := "ytogpdpjheknkjad", sum := "e504719a9cf41350935fa640062800d700fd8efb348835fcacefe85905af9da7", func := "loop.example/widgetroom/laws.FnValidRect", spec := "fnValidRect", apart := false, narrowed := true }
def FnValidRectUptoSaid : Prop := fnValidRectUptoRow.holds Try.pinned (OpenSpec.upto fnValidRectSpec)

/-- 'laws.FnHasPoint', WHERE WHAT IT READS IS OF BULK AT MOST 1048576: true; the input reads as it did. -/
def fnHasPointUptoRow : OpenClaim := { program := "ytogpdpjheknkjad", sum := "e504719a9cf41350935fa640062800d700fd8efb348835fcacefe85905af9da7", func := "loop.example/widgetroom/laws.FnHasPoint", spec := "fnHasPoint", apart := false, narrowed := true }
def FnHasPointUptoSaid : Prop := fnHasPointUptoRow.holds Try.pinned (OpenSpec.upto fnHasPointSpec)

/-- 'laws.FnMeetRects', WHERE WHAT IT READS IS OF BULK AT MOST 1048576: true; the input reads as it did. -/
def fnMeetRectsUptoRow : OpenClaim := { program := "ytogpdpjheknkjad", sum := "e504719a9cf41350935fa640062800d700fd8efb348835fcacefe85905af9da7", func := "loop.example/widgetroom/laws.FnMeetRects", spec := "fnMeetRects", apart := false, narrowed := true }
def FnMeetRectsUptoSaid : Prop := fnMeetRectsUptoRow.holds Try.pinned (OpenSpec.upto fnMeetRectsSpec)

/-- 'laws.FnMeetRectsPoint', WHERE WHAT IT READS IS OF BULK AT MOST 1048576: true; the input reads as it did. -/
def fnMeetRectsPointUptoRow : OpenClaim := { program := "ytogpdpjheknkjad", sum := "e504719a9cf41350935fa640062800d700fd8efb348835fcacefe85905af9da7", func := "loop.example/widgetroom/laws.FnMeetRectsPoint", spec := "fnMeetRectsPoint", apart := false, narrowed := true }
def FnMeetRectsPointUptoSaid : Prop := fnMeetRectsPointUptoRow.holds Try.pinned (OpenSpec.upto fnMeetRectsPointSpec)

/-- 'laws.FnCoverRects', WHERE WHAT IT READS IS OF BULK AT MOST 1048576: true; the input reads as it did. -/
def fnCoverRectsUptoRow : OpenClaim := { program := "ytogpdpjheknkjad", sum := "e504719a9cf41350935fa640062800d700fd8efb348835fcacefe85905af9da7", func := "loop.example/widgetroom/laws.FnCoverRects", spec := "fnCoverRects", apart := false, narrowed := true }
def FnCoverRectsUptoSaid : Prop := fnCoverRectsUptoRow.holds Try.pinned (OpenSpec.upto fnCoverRectsSpec)

/-- 'laws.FnInsideRect', WHERE WHAT IT READS IS OF BULK AT MOST 1048576: true; the input reads as it did. -/
def fnInsideRectUptoRow : OpenClaim := { program := "ytogpdpjheknkjad", sum := "e504719a9cf41350935fa640062800d700fd8efb348835fcacefe85905af9da7", func := "loop.example/widgetroom/laws.FnInsideRect", spec := "fnInsideRect", apart := false, narrowed := true }
def FnInsideRectUptoSaid : Prop := fnInsideRectUptoRow.holds Try.pinned (OpenSpec.upto fnInsideRectSpec)

end Rows
end Go.Proofs.Ytogpdpjheknkjad
