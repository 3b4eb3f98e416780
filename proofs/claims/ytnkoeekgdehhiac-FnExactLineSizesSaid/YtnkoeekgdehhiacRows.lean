/-
  No cell of these rows narrows 'for every input' (looked for: loops, veiled, ifaces, maps, wideKeys, modest, calm, conditions, laid).
  DERIVED. THE GIVEN ROWS OF THIS SEAT. 6 by the template 'for every input the law returns true; each argument reads behind the call as it read before'; 0 by the template 'total and deterministic' (their statements: YtnkoeekgdehhiacTotals.lean).
  GIVEN WITH THE SEED: the statements are not yours to turn. If you find one false, say at which input.
  Laid BY PROGRAM, IN A SANDBOX (cutbox-rows.mjs): the forced cells as the released guide's own fill.sh prints them over the translation f862bf73e21c5500… (all of the seat's roots in one cut). By AI agents, Wed Nov 11 2026. No macro, syntax, notation, axiom, sorry.
-/
import Derived.Test.YtnkoeekgdehhiacChecked
import GoSem.Claim
import GoSem.ClaimJoined
import GoSem.ClaimMapViews
import Derived.JoinedTies
import Derived.KernelRfl
namespace Go.Proofs.Ytnkoeekgdehhiac
/- THE CELL 'sum', in the pinned program and in every row, IS THE sha256 OF THE DUMP (.gsa) THAT YtnkoeekgdehhiacProg.lean LOADS. Nothing in Lean hashes anything: it is a label: what it is worth is what the hold of that sum in a sandbox is worth. -/
noncomputable def Try.pinned : Pinned := { name := "ytnkoeekgdehhiac", sum := "f862bf73e21c5500c5caff72e5fc6d089684f39622fa863dd7ede221bf6019b9", checked := Try.checked }
namespace Rows
def none {H : Type} : Left H := { results := [], args := [] }

/-- 'laws.FnExactSpreadBy': WHATEVER THE INPUT: true; the input reads as it did. -/
def fnExactSpreadBySpec : ChangeSpec := { name := "fnExactSpreadBy", fn := fun _ => fun
  | [d1, d2] => { results := [.lit (.bool true)], args := [d1, d2] }
  | _ => none }
def fnExactSpreadByRow : OpenClaim := { program := "ytnkoeekgdehhiac", sum := "f862bf73e21c5500c5caff72e5fc6d089684f39622fa863dd7ede221bf6019b9", func := "loop.example/widgetroom/laws.FnExactSpreadBy", spec := "fnExactSpreadBy", unfollowed := true, recurses := true, apart := false }
def FnExactSpreadBySaid : Prop := fnExactSpreadByRow.holds Try.pinned (OpenSpec.ofChange fnExactSpreadBySpec)

/-- ITS FALSE NEIGHBOUR: 'it returns false'. Refute it at one input. -/
def fnExactSpreadByWrong : ChangeSpec := { name := "fnExactSpreadBy", fn := fun _ => fun
  | [d1, d2] => { results := [.lit (.bool false)], args := [d1, d2] }
  | _ => none }
def FnExactSpreadByWrongFalsely : Prop := fnExactSpreadByRow.holds Try.pinned (OpenSpec.ofChange fnExactSpreadByWrong)

/-- 'laws.FnExactLineRequests': WHATEVER THE INPUT: true; the input reads as it did. -/
def fnExactLineRequestsSpec : ChangeSpec := { name := "fnExactLineRequests", fn := fun _ => fun
  | [d1, d2] => { results := [.lit (.bool true)], args := [d1, d2] }
  | _ => none }
def fnExactLineRequestsRow : OpenClaim := { program := "ytnkoeekgdehhiac", sum := "f862bf73e21c5500c5caff72e5fc6d089684f39622fa863dd7ede221bf6019b9", func := "loop.example/widgetroom/laws.FnExactLineRequests", spec := "fnExactLineRequests", unfollowed := true, recurses := true, apart := false }
def FnExactLineRequestsSaid : Prop := fnExactLineRequestsRow.holds Try.pinned (OpenSpec.ofChange fnExactLineRequestsSpec)

/-- ITS FALSE NEIGHBOUR: 'it returns false'. Refute it at one input. -/
def fnExactLineRequestsWrong : ChangeSpec := { name := "fnExactLineRequests", fn := fun _ => fun
  | [d1, d2] => { results := [.lit (.bool false)], args := [d1, d2] }
  | _ => none }
def FnExactLineRequestsWrongFalsely : Prop := fnExactLineRequestsRow.holds Try.pinned (OpenSpec.ofChange fnExactLineRequestsWrong)

/-- 'laws.FnExactLineSizes': WHATEVER THE INPUT: true; the input reads as it did. -/
def fnExactLineSizesSpec : ChangeSpec := { name := "fnExactLineSizes", fn := fun _ => fun
  | [d1, d2, d3] => { results := [.lit (.bool true)], args := [d1, d2, d3] }
  | _ => none }
def fnExactLineSizesRow : OpenClaim := { program := "ytnkoeekgdehhiac", sum := "f862bf73e21c5500c5caff72e5fc6d089684f39622fa863dd7ede221bf6019b9", func := "loop.example/widgetroom/laws.FnExactLineSizes", spec := "fnExactLineSizes", unfollowed := true, recurses := true, apart := false }
def FnExactLineSizesSaid : Prop := fnExactLineSizesRow.holds Try.pinned (OpenSpec.ofChange fnExactLineSizesSpec)

/-- ITS FALSE NEIGHBOUR: 'it returns false'. Refute it at one input. -/
def fnExactLineSizesWrong : ChangeSpec := { name := "fnExactLineSizes", fn := fun _ => fun
  | [d1, d2, d3] => { results := [.lit (.bool false)], args := [d1, d2, d3] }
  | _ => none }
def FnExactLineSizesWrongFalsely : Prop := fnExactLineSizesRow.holds Try.pinned (OpenSpec.ofChange fnExactLineSizesWrong)

/-- 'laws.FnExactValidGrid': WHATEVER THE INPUT: true; the input reads as it did. -/
def fnExactValidGridSpec : ChangeSpec := { name := "fnExactValidGrid", fn := fun _ => fun
  | [d] => { results := [.lit (.bool true)], args := [d] }
  | _ => none }
def fnExactValidGridRow : OpenClaim := { program := "ytnkoeekgdehhiac", sum := "f862bf73e21c5500c5caff72e5fc6d089684f39622fa863dd7ede221bf6019b9", func := "loop.example/widgetroom/laws.FnExactValidGrid", spec := "fnExactValidGrid", unfollowed := true, recurses := true, apart := false }
def FnExactValidGridSaid : Prop := fnExactValidGridRow.holds Try.pinned (OpenSpec.ofChange fnExactValidGridSpec)

/-- ITS FALSE NEIGHBOUR: 'it returns false'. Refute it at one input. -/
def fnExactValidGridWrong : ChangeSpec := { name := "fnExactValidGrid", fn := fun _ => fun
  | [d] => { results := [.lit (.bool false)], args := [d] }
  | _ => none }
def FnExactValidGridWrongFalsely : Prop := fnExactValidGridRow.holds Try.pinned (OpenSpec.ofChange fnExactValidGridWrong)

/-- 'laws.FnExactGridRequest': WHATEVER THE INPUT: true; the input reads as it did. -/
def fnExactGridRequestSpec : ChangeSpec := { name := "fnExactGridRequest", fn := fun _ => fun
  | [d] => { results := [.lit (.bool true)], args := [d] }
  | _ => none }
def fnExactGridRequestRow : OpenClaim := { program := "ytnkoeekgdehhiac", sum := "f862bf73e21c5500c5caff72e5fc6d089684f39622fa863dd7ede221bf6019b9", func := "loop.example/widgetroom/laws.FnExactGridRequest", spec := "fnExactGridRequest", unfollowed := true, recurses := true, apart := false }
def FnExactGridRequestSaid : Prop := fnExactGridRequestRow.holds Try.pinned (OpenSpec.ofChange fnExactGridRequestSpec)

/-- ITS FALSE NEIGHBOUR: 'it returns false'. Refute it at one input. -/
def fnExactGridRequestWrong : ChangeSpec := { name := "fnExactGridRequest", fn := fun _ => fun
  | [d] => { results := [.lit (.bool false)], args := [d] }
  | _ => none }
def FnExactGridRequestWrongFalsely : Prop := fnExactGridRequestRow.holds Try.pinned (OpenSpec.ofChange fnExactGridRequestWrong)

/-- 'laws.FnExactGridRects': WHATEVER THE INPUT: true; the input reads as it did. -/
def fnExactGridRectsSpec : ChangeSpec := { name := "fnExactGridRects", fn := fun _ => fun
  | [d1, d2, d3] => { results := [.lit (.bool true)], args := [d1, d2, d3] }
  | _ => none }
def fnExactGridRectsRow : OpenClaim := { program := "ytnkoeekgdehhiac", sum := "f862bf73e21c5500c5caff72e5fc6d089684f39622fa863dd7ede221bf6019b9", func := "loop.example/widgetroom/laws.FnExactGridRects", spec := "fnExactGridRects", unfollowed := true, recurses := true, apart := false }
def FnExactGridRectsSaid : Prop := fnExactGridRectsRow.holds Try.pinned (OpenSpec.ofChange fnExactGridRectsSpec)

/-- ITS FALSE NEIGHBOUR: 'it returns false'. Refute it at one input. -/
def fnExactGridRectsWrong : ChangeSpec := { name := "fnExactGridRects", fn := fun _ => fun
  | [d1, d2, d3] => { results := [.lit (.bool false)], args := [d1, d2, d3] }
  | _ => none }
def FnExactGridRectsWrongFalsely : Prop := fnExactGridRectsRow.holds Try.pinned (OpenSpec.ofChange fnExactGridRectsWrong)

/- THE SECOND FORM. 'bulk': how many values and letters a reading holds, each counted each time it is reached (what is shared counts as often as it is met; a slice's spare places count too). A statement '..UptoSaid' is the law's where the arguments, and the package variables that the reading takes, are together of bulk at most 1048576: NARROWER than '..Said'. Prove '..Said' where nothing that the law and all that it calls make is longer than what came in: it says more and counts as full. Else prove '..UptoSaid'. A law counts once. -/
mutual
def uptoBulk {H : Type} : DataW H → Nat
  | .lit (.string bytes) => bytes.length + 1
  | .lit _ => 1
  | .nil => 1
  | .ptr d => uptoBulk d + 1
  | .slice elems spare => uptoBulkAll elems + uptoBulkAll spare + 1
  | .agg parts => uptoBulkAll parts + 1
  | .iface _ d => uptoBulk d + 1
  | .map entries => uptoBulkEntries entries + 1
  | .held _ => 1
def uptoBulkAll {H : Type} : List (DataW H) → Nat
  | [] => 0
  | d :: r => uptoBulk d + uptoBulkAll r
def uptoBulkEntries {H : Type} : List (Lit × DataW H) → Nat
  | [] => 0
  | x :: r => uptoBulkEntry x + uptoBulkEntries r
def uptoBulkEntry {H : Type} : Lit × DataW H → Nat
  | (.string bytes, d) => bytes.length + uptoBulk d + 1
  | (_, d) => uptoBulk d + 1
 end
def uptoSmall : (H : Type) → List (DataW H) → Bool := fun _ ds => decide (uptoBulkAll ds ≤ 1048576)
def OpenSpec.upto (s : _root_.Go.ChangeSpec) : _root_.Go.OpenSpec := { _root_.Go.OpenSpec.ofChange s with cond := some uptoSmall }

/-- 'laws.FnExactSpreadBy', WHERE WHAT IT READS IS OF BULK AT MOST 1048576: true; the input reads as it did. -/
def fnExactSpreadByUptoRow : OpenClaim := { program := "ytnkoeekgdehhiac", sum := "f862bf73e21c5500c5caff72e5fc6d089684f39622fa863dd7ede221bf6019b9", func := "loop.example/widgetroom/laws.FnExactSpreadBy", spec := "fnExactSpreadBy", unfollowed := true, recurses := true, apart := false, narrowed := true }
def FnExactSpreadByUptoSaid : Prop := fnExactSpreadByUptoRow.holds Try.pinned (OpenSpec.upto fnExactSpreadBySpec)

/-- 'laws.FnExactLineRequests', WHERE WHAT IT READS IS OF BULK AT MOST 1048576: true; the input reads as it did. -/
def fnExactLineRequestsUptoRow : OpenClaim := { program := "ytnkoeekgdehhiac", sum := "f862bf73e21c5500c5caff72e5fc6d089684f39622fa863dd7ede221bf6019b9", func := "loop.example/widgetroom/laws.FnExactLineRequests", spec := "fnExactLineRequests", unfollowed := true, recurses := true, apart := false, narrowed := true }
def FnExactLineRequestsUptoSaid : Prop := fnExactLineRequestsUptoRow.holds Try.pinned (OpenSpec.upto fnExactLineRequestsSpec)

/-- 'laws.FnExactLineSizes', WHERE WHAT IT READS IS OF BULK AT MOST 1048576: true; the input reads as it did. -/
def fnExactLineSizesUptoRow : OpenClaim := { program := "ytnkoeekgdehhiac", sum := "f862bf73e21c5500c5caff72e5fc6d089684f39622fa863dd7ede221bf6019b9", func := "loop.example/widgetroom/laws.FnExactLineSizes", spec := "fnExactLineSizes", unfollowed := true, recurses := true, apart := false, narrowed := true }
def FnExactLineSizesUptoSaid : Prop := fnExactLineSizesUptoRow.holds Try.pinned (OpenSpec.upto fnExactLineSizesSpec)

/-- 'laws.FnExactValidGrid', WHERE WHAT IT READS IS OF BULK AT MOST 1048576: true; the input reads as it did. -/
def fnExactValidGridUptoRow : OpenClaim := { program := "ytnkoeekgdehhiac", sum := "f862bf73e21c5500c5caff72e5fc6d089684f39622fa863dd7ede221bf6019b9", func := "loop.example/widgetroom/laws.FnExactValidGrid", spec := "fnExactValidGrid", unfollowed := true, recurses := true, apart := false, narrowed := true }
def FnExactValidGridUptoSaid : Prop := fnExactValidGridUptoRow.holds Try.pinned (OpenSpec.upto fnExactValidGridSpec)

/-- 'laws.FnExactGridRequest', WHERE WHAT IT READS IS OF BULK AT MOST 1048576: true; the input reads as it did. -/
def fnExactGridRequestUptoRow : OpenClaim := { program := "ytnkoeekgdehhiac", sum := "f862bf73e21c5500c5caff72e5fc6d089684f39622fa863dd7ede221bf6019b9", func := "loop.example/widgetroom/laws.FnExactGridRequest", spec := "fnExactGridRequest", unfollowed := true, recurses := true, apart := false, narrowed := true }
def FnExactGridRequestUptoSaid : Prop := fnExactGridRequestUptoRow.holds Try.pinned (OpenSpec.upto fnExactGridRequestSpec)

/-- 'laws.FnExactGridRects', WHERE WHAT IT READS IS OF BULK AT MOST 1048576: true; the input reads as it did. -/
def fnExactGridRectsUptoRow : OpenClaim := { program := "ytnkoeekgdehhiac", sum := "f862bf73e21c5500c5caff72e5fc6d089684f39622fa863dd7ede221bf6019b9", func := "loop.example/widgetroom/laws.FnExactGridRects", spec := "fnExactGridRects", unfollowed := true, recurses := true, apart := false, narrowed := true }
def FnExactGridRectsUptoSaid : Prop := fnExactGridRectsUptoRow.holds Try.pinned (OpenSpec.upto fnExactGridRectsSpec)

end Rows
end Go.Proofs.Ytnkoeekgdehhiac
