/-
  No cell of these rows narrows 'for every input' (looked for: loops, veiled, ifaces, maps, wideKeys, modest, calm, conditions, laid).
  DERIVED. THE GIVEN ROWS OF THIS SEAT. 3 by the template 'for every input the law returns true; each argument reads behind the call as it read before'; 0 by the template 'total and deterministic' (their statements: YtgdkionmeacalabGreatTotals.lean).
  GIVEN WITH THE SEED: the statements are not yours to turn. If you find one false, say at which input.
  Laid BY PROGRAM, IN A SANDBOX (cutbox-rows.mjs): the forced cells as the released guide's own fill.sh prints them over the translation c53df5f0b7956ff9… (all of the seat's roots in one cut). By AI agents, Wed Nov 11 2026. No macro, syntax, notation, axiom, sorry.
-/
import Derived.Test.YtgdkionmeacalabGreatChecked
import GoSem.Claim
import GoSem.ClaimJoined
import GoSem.ClaimMapViews
import Derived.JoinedTies
import Derived.KernelRfl
namespace Go.Proofs.YtgdkionmeacalabGreat
/- THE CELL 'sum', in the pinned program and in every row, IS THE sha256 OF THE DUMP (.gsa) THAT YtgdkionmeacalabGreatProg.lean LOADS. Nothing in Lean hashes anything: it is a label: what it is worth is what the hold of that sum in a sandbox is worth. -/
noncomputable def Tryz.pinned : Pinned := { name := "ytgdkionmeacalabgreat", sum := "c53df5f0b7956ff987e83ee967dae4beec38f72e635fe7baf942471cce065b99", checked := Tryz.checked }
namespace Rows
def none {H : Type} : Left H := { results := [], args := [] }

/-- 'laws.FnRequestOf': WHATEVER THE INPUT: true; the input reads as it did. -/
def fnRequestOfSpec : ChangeSpec := { name := "fnRequestOf", fn := fun _ => fun
  | [d] => { results := [.lit (.bool true)], args := [d] }
  | _ => none }
def fnRequestOfRow : OpenClaim := { program := "ytgdkionmeacalabgreat", sum := "c53df5f0b7956ff987e83ee967dae4beec38f72e635fe7baf942471cce065b99", func := "loop.example/widgetroom/laws.FnRequestOf", spec := "fnRequestOf", unfollowed := true, recurses := true, apart := false }
def FnRequestOfSaid : Prop := fnRequestOfRow.holds Tryz.pinned (OpenSpec.ofChange fnRequestOfSpec)

/-- ITS FALSE NEIGHBOUR: 'it returns false'. Refute it at one input. -/
def fnRequestOfWrong : ChangeSpec := { name := "fnRequestOf", fn := fun _ => fun
  | [d] => { results := [.lit (.bool false)], args := [d] }
  | _ => none }
def FnRequestOfWrongFalsely : Prop := fnRequestOfRow.holds Tryz.pinned (OpenSpec.ofChange fnRequestOfWrong)

/-- 'laws.FnTouchedBy': WHATEVER THE INPUT: true; the input reads as it did. -/
def fnTouchedBySpec : ChangeSpec := { name := "fnTouchedBy", fn := fun _ => fun
  | [d] => { results := [.lit (.bool true)], args := [d] }
  | _ => none }
def fnTouchedByRow : OpenClaim := { program := "ytgdkionmeacalabgreat", sum := "c53df5f0b7956ff987e83ee967dae4beec38f72e635fe7baf942471cce065b99", func := "loop.example/widgetroom/laws.FnTouchedBy", spec := "fnTouchedBy", unfollowed := true, recurses := true, apart := false }
def FnTouchedBySaid : Prop := fnTouchedByRow.holds Tryz.pinned (OpenSpec.ofChange fnTouchedBySpec)

/-- ITS FALSE NEIGHBOUR: 'it returns false'. Refute it at one input. -/
def fnTouchedByWrong : ChangeSpec := { name := "fnTouchedBy", fn := fun _ => fun
  | [d] => { results := [.lit (.bool false)], args := [d] }
  | _ => none }
def FnTouchedByWrongFalsely : Prop := fnTouchedByRow.holds Tryz.pinned (OpenSpec.ofChange fnTouchedByWrong)

/-- 'laws.FnLayoutTree': WHATEVER THE INPUT: true; the input reads as it did. -/
def fnLayoutTreeSpec : ChangeSpec := { name := "fnLayoutTree", fn := fun _ => fun
  | [d] => { results := [.lit (.bool true)], args := [d] }
  | _ => none }
def fnLayoutTreeRow : OpenClaim := { program := "ytgdkionmeacalabgreat", sum := "c53df5f0b7956ff987e83ee967dae4beec38f72e635fe7baf942471cce065b99", func := "loop.example/widgetroom/laws.FnLayoutTree", spec := "fnLayoutTree", unfollowed := true, recurses := true, apart := false }
def FnLayoutTreeSaid : Prop := fnLayoutTreeRow.holds Tryz.pinned (OpenSpec.ofChange fnLayoutTreeSpec)

/-- ITS FALSE NEIGHBOUR: 'it returns false'. Refute it at one input. -/
def fnLayoutTreeWrong : ChangeSpec := { name := "fnLayoutTree", fn := fun _ => fun
  | [d] => { results := [.lit (.bool false)], args := [d] }
  | _ => none }
def FnLayoutTreeWrongFalsely : Prop := fnLayoutTreeRow.holds Tryz.pinned (OpenSpec.ofChange fnLayoutTreeWrong)

/- THE SECOND FORM. 'bulk': how many values and letters a reading holds, each counted each time it is reached (what is shared counts as often as it is met; a slice's spare places count too). A statement '..UptoSaid' is the law's where the arguments, and the package variables that the reading takes, are together of bulk at most 1048576: NARROWER than '..Said'. Prove '..Said' where nothing that the law and all that it calls make is longer than what came in: it says more and counts as full. Else prove '..UptoSaid'. A law counts once. -/
mutual
def uptoBulk {H : Type} : DataW H → Nat
  | .lit (.string bytes) => bytes.length + 1
  | .lit _ => 1
  | .nil => 1
  | .ptr d => uptoBulk d + 1
  | .slice elems spare => uptoBulkAll elems + uptoBulkAll spare + 1
  | .agg parts => uptoBulkAll parts + 1
  | .iface _ d => uptoBulk d + 1
  | .map entries => uptoBulkEntries entries + 1
  | .held _ => 1
def uptoBulkAll {H : Type} : List (DataW H) → Nat
  | [] => 0
  | d :: r => uptoBulk d + uptoBulkAll r
def uptoBulkEntries {H : Type} : List (Lit × DataW H) → Nat
  | [] => 0
  | x :: r => uptoBulkEntry x + uptoBulkEntries r
def uptoBulkEntry {H : Type} : Lit × DataW H → Nat
  | (.string bytes, d) => bytes.length + uptoBulk d + 1
  | (_, d) => uptoBulk d + 1
 end
def uptoSmall : (H : Type) → List (DataW H) → Bool := fun _ ds => decide (uptoBulkAll ds ≤ 1048576)
def OpenSpec.upto (s : _root_.Go.ChangeSpec) : _root_.Go.OpenSpec := { _root_.Go.OpenSpec.ofChange s with cond := some uptoSmall }

/-- 'laws.FnRequestOf', WHERE WHAT IT READS IS OF BULK AT MOST 1048576: true; the input reads as it did. -/
def fnRequestOfUptoRow : OpenClaim := { program := "ytgdkionmeacalabgreat", sum := "c53df5f0b7956ff987e83ee967dae4beec38f72e635fe7baf942471cce065b99", func := "loop.example/widgetroom/laws.FnRequestOf", spec := "fnRequestOf", unfollowed := true, recurses := true, apart := false, narrowed := true }
def FnRequestOfUptoSaid : Prop := fnRequestOfUptoRow.holds Tryz.pinned (OpenSpec.upto fnRequestOfSpec)

/-- 'laws.FnTouchedBy', WHERE WHAT IT READS IS OF BULK AT MOST 1048576: true; the input reads as it did. -/
def fnTouchedByUptoRow : OpenClaim := { program := "ytgdkionmeacalabgreat", sum := "c53df5f0b7956ff987e83ee967dae4beec38f72e635fe7baf942471cce065b99", func := "loop.example/widgetroom/laws.FnTouchedBy", spec := "fnTouchedBy", unfollowed := true, recurses := true, apart := false, narrowed := true }
def FnTouchedByUptoSaid : Prop := fnTouchedByUptoRow.holds Tryz.pinned (OpenSpec.upto fnTouchedBySpec)

/-- 'laws.FnLayoutTree', WHERE WHAT IT READS IS OF BULK AT MOST 1048576: true; the input reads as it did. -/
def fnLayoutTreeUptoRow : OpenClaim := { program := "ytgdkionmeacalabgreat", sum := "c53df5f0b7956ff987e83ee967dae4beec38f72e635fe7baf942471cce065b99", func := "loop.example/widgetroom/laws.FnLayoutTree", spec := "fnLayoutTree", unfollowed := true, recurses := true, apart := false, narrowed := true }
def FnLayoutTreeUptoSaid : Prop := fnLayoutTreeUptoRow.holds Tryz.pinned (OpenSpec.upto fnLayoutTreeSpec)

end Rows
end Go.Proofs.YtgdkionmeacalabGreat
