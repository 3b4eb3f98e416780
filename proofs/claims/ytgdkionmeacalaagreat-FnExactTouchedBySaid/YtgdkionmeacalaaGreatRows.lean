/-
  No cell of these rows narrows 'for every input' (looked for: loops, veiled, ifaces, maps, wideKeys, modest, calm, conditions, laid).
  DERIVED. THE GIVEN ROWS OF THIS SEAT. 4 by the template 'for every input the law returns true; each argument reads behind the call as it read before'; 0 by the template 'total and deterministic' (their statements: YtgdkionmeacalaaGreatTotals.lean).
  GIVEN WITH THE SEED: the statements are not yours to turn. If you find one false, say at which input.
  Laid BY PROGRAM, IN A SANDBOX (cutbox-rows.mjs): the forced cells as the released guide's own fill.sh prints them over the translation b4ded6d66f6a0ec2… (all of the seat's roots in one cut). By AI agents, Wed Nov 11 2026. No macro, syntax, notation, axiom, sorry.
-/
import Derived.Test.YtgdkionmeacalaaGreatChecked
import GoSem.Claim
import GoSem.ClaimJoined
import GoSem.ClaimMapViews
import Derived.JoinedTies
import Derived.KernelRfl
namespace Go.Proofs.YtgdkionmeacalaaGreat
/- THE CELL 'sum', in the pinned program and in every row, IS THE sha256 OF THE DUMP (.gsa) THAT YtgdkionmeacalaaGreatProg.lean LOADS. Nothing in Lean hashes anything: it is a label: what it is worth is what the hold of that sum in a sandbox is worth. -/
noncomputable def Tryz.pinned : Pinned := { name := "ytgdkionmeacalaagreat", sum := "b4ded6d66f6a0ec26942e3b253ba370e4b14ea696366bc93c21e5cb3371b66be", checked := Tryz.checked }
namespace Rows
def none {H : Type} : Left H := { results := [], args := [] }

/-- 'laws.FnExactRequestOf': WHATEVER THE INPUT: true; the input reads as it did. -/
def fnExactRequestOfSpec : ChangeSpec := { name := "fnExactRequestOf", fn := fun _ => fun
  | [d1, d2] => { results := [.lit (.bool true)], args := [d1, d2] }
  | _ => none }
def fnExactRequestOfRow : OpenClaim := { program := "ytgdkionmeacalaagreat", sum := "b4ded6d66f6a0ec26942e3b253ba370e4b14ea696366bc93c21e5cb3371b66be", func := "loop.example/widgetroom/laws.FnExactRequestOf", spec := "fnExactRequestOf", unfollowed := true, recurses := true, apart := false }
def FnExactRequestOfSaid : Prop := fnExactRequestOfRow.holds Tryz.pinned (OpenSpec.ofChange fnExactRequestOfSpec)

/-- ITS FALSE NEIGHBOUR: 'it returns false'. Refute it at one input. -/
def fnExactRequestOfWrong : ChangeSpec := { name := "fnExactRequestOf", fn := fun _ => fun
  | [d1, d2] => { results := [.lit (.bool false)], args := [d1, d2] }
  | _ => none }
def FnExactRequestOfWrongFalsely : Prop := fnExactRequestOfRow.holds Tryz.pinned (OpenSpec.ofChange fnExactRequestOfWrong)

/-- 'laws.FnExactTouchedBy': WHATEVER THE INPUT: true; the input reads as it did. -/
def fnExactTouchedBySpec : ChangeSpec := { name := "fnExactTouchedBy", fn := fun _ => fun
  | [d1, d2, d3, d4] => { results := [.lit (.bool true)], args := [d1, d2, d3, d4] }
  | _ => none }
def fnExactTouchedByRow : OpenClaim := { program := "ytgdkionmeacalaagreat", sum := "b4ded6d66f6a0ec26942e3b253ba370e4b14ea696366bc93c21e5cb3371b66be", func := "loop.example/widgetroom/laws.FnExactTouchedBy", spec := "fnExactTouchedBy", unfollowed := true, recurses := true, apart := false }
def FnExactTouchedBySaid : Prop := fnExactTouchedByRow.holds Tryz.pinned (OpenSpec.ofChange fnExactTouchedBySpec)

/-- ITS FALSE NEIGHBOUR: 'it returns false'. Refute it at one input. -/
def fnExactTouchedByWrong : ChangeSpec := { name := "fnExactTouchedBy", fn := fun _ => fun
  | [d1, d2, d3, d4] => { results := [.lit (.bool false)], args := [d1, d2, d3, d4] }
  | _ => none }
def FnExactTouchedByWrongFalsely : Prop := fnExactTouchedByRow.holds Tryz.pinned (OpenSpec.ofChange fnExactTouchedByWrong)

/-- 'laws.FnExactLayoutTree': WHATEVER THE INPUT: true; the input reads as it did. -/
def fnExactLayoutTreeSpec : ChangeSpec := { name := "fnExactLayoutTree", fn := fun _ => fun
  | [d1, d2, d3] => { results := [.lit (.bool true)], args := [d1, d2, d3] }
  | _ => none }
def fnExactLayoutTreeRow : OpenClaim := { program := "ytgdkionmeacalaagreat", sum := "b4ded6d66f6a0ec26942e3b253ba370e4b14ea696366bc93c21e5cb3371b66be", func := "loop.example/widgetroom/laws.FnExactLayoutTree", spec := "fnExactLayoutTree", unfollowed := true, recurses := true, apart := false }
def FnExactLayoutTreeSaid : Prop := fnExactLayoutTreeRow.holds Tryz.pinned (OpenSpec.ofChange fnExactLayoutTreeSpec)

/-- ITS FALSE NEIGHBOUR: 'it returns false'. Refute it at one input. -/
def fnExactLayoutTreeWrong : ChangeSpec := { name := "fnExactLayoutTree", fn := fun _ => fun
  | [d1, d2, d3] => { results := [.lit (.bool false)], args := [d1, d2, d3] }
  | _ => none }
def FnExactLayoutTreeWrongFalsely : Prop := fnExactLayoutTreeRow.holds Tryz.pinned (OpenSpec.ofChange fnExactLayoutTreeWrong)

/-- 'laws.FnExactNaturalLayout': WHATEVER THE INPUT: true; the input reads as it did. -/
def fnExactNaturalLayoutSpec : ChangeSpec := { name := "fnExactNaturalLayout", fn := fun _ => fun
  | [d] => { results := [.lit (.bool true)], args := [d] }
  | _ => none }
def fnExactNaturalLayoutRow : OpenClaim := { program := "ytgdkionmeacalaagreat", sum := "b4ded6d66f6a0ec26942e3b253ba370e4b14ea696366bc93c21e5cb3371b66be", func := "loop.example/widgetroom/laws.FnExactNaturalLayout", spec := "fnExactNaturalLayout", unfollowed := true, recurses := true, apart := false }
def FnExactNaturalLayoutSaid : Prop := fnExactNaturalLayoutRow.holds Tryz.pinned (OpenSpec.ofChange fnExactNaturalLayoutSpec)

/-- ITS FALSE NEIGHBOUR: 'it returns false'. Refute it at one input. -/
def fnExactNaturalLayoutWrong : ChangeSpec := { name := "fnExactNaturalLayout", fn := fun _ => fun
  | [d] => { results := [.lit (.bool false)], args := [d] }
  | _ => none }
def FnExactNaturalLayoutWrongFalsely : Prop := fnExactNaturalLayoutRow.holds Tryz.pinned (OpenSpec.ofChange fnExactNaturalLayoutWrong)

/- THE SECOND FORM. 'bulk': how many values and letters a reading holds, each counted each time it is reached (what is shared counts as often as it is met; a slice's spare places count too). A statement '..UptoSaid' is the law's where the arguments, and the package variables that the reading takes, are together of bulk at most 1048576: NARROWER than '..Said'. Prove '..Said' where nothing that the law and all that it calls make is longer than what came in: it says more and counts as full. Else prove '..UptoSaid'. A law counts once. -/
mutual
def uptoBulk {H : Type} : DataW H → Nat
  | .lit (.string bytes) => bytes.length + 1
  | .lit _ => 1
  | .nil => 1
  | .ptr d => uptoBulk d + 1
  | .slice elems spare => uptoBulkAll elems + uptoBulkAll spare + 1
  | .agg parts => uptoBulkAll parts + 1
  | .iface _ d => uptoBulk d + 1
  | .map entries => uptoBulkEntries entries + 1
  | .held _ => 1
def uptoBulkAll {H : Type} : List (DataW H) → Nat
  | [] => 0
  | d :: r => uptoBulk d + uptoBulkAll r
def uptoBulkEntries {H : Type} : List (Lit × DataW H) → Nat
  | [] => 0
  | x :: r => uptoBulkEntry x + uptoBulkEntries r
def uptoBulkEntry {H : Type} : Lit × DataW H → Nat
  | (.string bytes, d) => bytes.length + uptoBulk d + 1
  | (_, d) => uptoBulk d + 1
 end
def uptoSmall : (H : Type) → List (DataW H) → Bool := fun _ ds => decide (uptoBulkAll ds ≤ 1048576)
def OpenSpec.upto (s : _root_.Go.ChangeSpec) : _root_.Go.OpenSpec := { _root_.Go.OpenSpec.ofChange s with cond := some uptoSmall }

/-- 'laws.FnExactRequestOf', WHERE WHAT IT READS IS OF BULK AT MOST 1048576: true; the input reads as it did. -/
def fnExactRequestOfUptoRow : OpenClaim := { program := "ytgdkionmeacalaagreat", sum := "b4ded6d66f6a0ec26942e3b253ba370e4b14ea696366bc93c21e5cb3371b66be", func := "loop.example/widgetroom/laws.FnExactRequestOf", spec := "fnExactRequestOf", unfollowed := true, recurses := true, apart := false, narrowed := true }
def FnExactRequestOfUptoSaid : Prop := fnExactRequestOfUptoRow.holds Tryz.pinned (OpenSpec.upto fnExactRequestOfSpec)

/-- 'laws.FnExactTouchedBy', WHERE WHAT IT READS IS OF BULK AT MOST 1048576: true; the input reads as it did. -/
def fnExactTouchedByUptoRow : OpenClaim := { program := "ytgdkionmeacalaagreat", sum := "b4ded6d66f6a0ec26942e3b253ba370e4b14ea696366bc93c21e5cb3371b66be", func := "loop.example/widgetroom/laws.FnExactTouchedBy", spec := "fnExactTouchedBy", unfollowed := true, recurses := true, apart := false, narrowed := true }
def FnExactTouchedByUptoSaid : Prop := fnExactTouchedByUptoRow.holds Tryz.pinned (OpenSpec.upto fnExactTouchedBySpec)

/-- 'laws.FnExactLayoutTree', WHERE WHAT IT READS IS OF BULK AT MOST 1048576: true; the input reads as it did. -/
def fnExactLayoutTreeUptoRow : OpenClaim := { program := "ytgdkionmeacalaagreat", sum := "b4ded6d66f6a0ec26942e3b253ba370e4b14ea696366bc93c21e5cb3371b66be", func := "loop.example/widgetroom/laws.FnExactLayoutTree", spec := "fnExactLayoutTree", unfollowed := true, recurses := true, apart := false, narrowed := true }
def FnExactLayoutTreeUptoSaid : Prop := fnExactLayoutTreeUptoRow.holds Tryz.pinned (OpenSpec.upto fnExactLayoutTreeSpec)

/-- 'laws.FnExactNaturalLayout', WHERE WHAT IT READS IS OF BULK AT MOST 1048576: true; the input reads as it did. -/
def fnExactNaturalLayoutUptoRow : OpenClaim := { program := "ytgdkionmeacalaagreat", sum := "b4ded6d66f6a0ec26942e3b253ba370e4b14ea696366bc93c21e5cb3371b66be", func := "loop.example/widgetroom/laws.FnExactNaturalLayout", spec := "fnExactNaturalLayout", unfollowed := true, recurses := true, apart := false, narrowed := true }
def FnExactNaturalLayoutUptoSaid : Prop := fnExactNaturalLayoutUptoRow.holds Tryz.pinned (OpenSpec.upto fnExactNaturalLayoutSpec)

end Rows
end Go.Proofs.YtgdkionmeacalaaGreat
