/-
  No cell of these rows narrows 'for every input' (looked for: loops, veiled, ifaces, maps, wideKeys, modest, calm, conditions, laid).
  DERIVED. THE GIVEN ROWS OF THIS SEAT. 6 by the template 'for every input the law returns true; each argument reads behind the call as it read before'; 0 by the template 'total and deterministic' (their statements: YtpbfbcdidkbjiaaTotals.lean).
  GIVEN WITH THE SEED: the statements are not yours to turn. If you find one false, say at which input.
  Laid BY PROGRAM, IN A SANDBOX (cutbox-rows.mjs): the forced cells as the released guide's own fill.sh prints them over the translation 21af9cbb4fd216ab… (all of the seat's roots in one cut). By AI agents, Wed Nov 11 2026. No macro, syntax, notation, axiom, sorry.
-/
import Derived.Test.YtpbfbcdidkbjiaaChecked
import GoSem.Claim
import GoSem.ClaimJoined
import GoSem.ClaimMapViews
import Derived.JoinedTies
import Derived.KernelRfl
namespace Go.Proofs.Ytpbfbcdidkbjiaa
/- THE CELL 'sum', in the pinned program and in every row, IS THE sha256 OF THE DUMP (.gsa) THAT YtpbfbcdidkbjiaaProg.lean LOADS. Nothing in Lean hashes anything: it is a label: what it is worth is what the hold of that sum in a sandbox is worth. -/
noncomputable def Try.pinned : Pinned := { name := "ytpbfbcdidkbjiaa", sum := "21af9cbb4fd216abbe1b74410b69bd2912f7204783c7f52a4fc9a73239d05989", checked := Try.checked }
namespace Rows
def none {H : Type} : Left H := { results := [], args := [] }

/-- 'laws.FnExactValidView': WHATEVER THE INPUT: true; the input reads as it did. -/
def fnExactValidViewSpec : ChangeSpec := { name := "fnExactValidView", fn := fun _ => fun
  | [d] => { results := [.lit (.bool true)], args := [d] }
  | _ => none }
def fnExactValidViewRow : OpenClaim := { program := "ytpbfbcdidkbjiaa", sum := "21af9cbb4fd216abbe1b74410b69bd2912f7204783c7f52a4fc9a73239d05989", func := "loop.example/widgetroom/laws.FnExactValidView", spec := "fnExactValidView", apart := false }
def FnExactValidViewSaid : Prop := fnExactValidViewRow.holds Try.pinned (OpenSpec.ofChange fnExactValidViewSpec)

/-- ITS FALSE NEIGHBOUR: 'it returns false'. Refute it at one input. -/
def fnExactValidViewWrong : ChangeSpec := { name := "fnExactValidView", fn := fun _ => fun
  | [d] => { results := [.lit (.bool false)], args := [d] }
  | _ => none }
def FnExactValidViewWrongFalsely : Prop := fnExactValidViewRow.holds Try.pinned (OpenSpec.ofChange fnExactValidViewWrong)

/-- 'laws.FnExactScrollBy': WHATEVER THE INPUT: true; the input reads as it did. -/
def fnExactScrollBySpec : ChangeSpec := { name := "fnExactScrollBy", fn := fun _ => fun
  | [d1, d2] => { results := [.lit (.bool true)], args := [d1, d2] }
  | _ => none }
def fnExactScrollByRow : OpenClaim := { program := "ytpbfbcdidkbjiaa", sum := "21af9cbb4fd216abbe1b74410b69bd2912f7204783c7f52a4fc9a73239d05989", func := "loop.example/widgetroom/laws.FnExactScrollBy", spec := "fnExactScrollBy", apart := false }
def FnExactScrollBySaid : Prop := fnExactScrollByRow.holds Try.pinned (OpenSpec.ofChange fnExactScrollBySpec)

/-- ITS FALSE NEIGHBOUR: 'it returns false'. Refute it at one input. -/
def fnExactScrollByWrong : ChangeSpec := { name := "fnExactScrollBy", fn := fun _ => fun
  | [d1, d2] => { results := [.lit (.bool false)], args := [d1, d2] }
  | _ => none }
def FnExactScrollByWrongFalsely : Prop := fnExactScrollByRow.holds Try.pinned (OpenSpec.ofChange fnExactScrollByWrong)

/-- 'laws.FnExactMoveTo': WHATEVER THE INPUT: true; the input reads as it did. -/
def fnExactMoveToSpec : ChangeSpec := { name := "fnExactMoveTo", fn := fun _ => fun
  | [d1, d2] => { results := [.lit (.bool true)], args := [d1, d2] }
  | _ => none }
def fnExactMoveToRow : OpenClaim := { program := "ytpbfbcdidkbjiaa", sum := "21af9cbb4fd216abbe1b74410b69bd2912f7204783c7f52a4fc9a73239d05989", func := "loop.example/widgetroom/laws.FnExactMoveTo", spec := "fnExactMoveTo", apart := false }
def FnExactMoveToSaid : Prop := fnExactMoveToRow.holds Try.pinned (OpenSpec.ofChange fnExactMoveToSpec)

/-- ITS FALSE NEIGHBOUR: 'it returns false'. Refute it at one input. -/
def fnExactMoveToWrong : ChangeSpec := { name := "fnExactMoveTo", fn := fun _ => fun
  | [d1, d2] => { results := [.lit (.bool false)], args := [d1, d2] }
  | _ => none }
def FnExactMoveToWrongFalsely : Prop := fnExactMoveToRow.holds Try.pinned (OpenSpec.ofChange fnExactMoveToWrong)

/-- 'laws.FnExactSeeLine': WHATEVER THE INPUT: true; the input reads as it did. -/
def fnExactSeeLineSpec : ChangeSpec := { name := "fnExactSeeLine", fn := fun _ => fun
  | [d1, d2] => { results := [.lit (.bool true)], args := [d1, d2] }
  | _ => none }
def fnExactSeeLineRow : OpenClaim := { program := "ytpbfbcdidkbjiaa", sum := "21af9cbb4fd216abbe1b74410b69bd2912f7204783c7f52a4fc9a73239d05989", func := "loop.example/widgetroom/laws.FnExactSeeLine", spec := "fnExactSeeLine", apart := false }
def FnExactSeeLineSaid : Prop := fnExactSeeLineRow.holds Try.pinned (OpenSpec.ofChange fnExactSeeLineSpec)

/-- ITS FALSE NEIGHBOUR: 'it returns false'. Refute it at one input. -/
def fnExactSeeLineWrong : ChangeSpec := { name := "fnExactSeeLine", fn := fun _ => fun
  | [d1, d2] => { results := [.lit (.bool false)], args := [d1, d2] }
  | _ => none }
def FnExactSeeLineWrongFalsely : Prop := fnExactSeeLineRow.holds Try.pinned (OpenSpec.ofChange fnExactSeeLineWrong)

/-- 'laws.FnExactThumbOf': WHATEVER THE INPUT: true; the input reads as it did. -/
def fnExactThumbOfSpec : ChangeSpec := { name := "fnExactThumbOf", fn := fun _ => fun
  | [d] => { results := [.lit (.bool true)], args := [d] }
  | _ => none }
def fnExactThumbOfRow : OpenClaim := { program := "ytpbfbcdidkbjiaa", sum := "21af9cbb4fd216abbe1b74410b69bd2912f7204783c7f52a4fc9a73239d05989", func := "loop.example/widgetroom/laws.FnExactThumbOf", spec := "fnExactThumbOf", apart := false }
def FnExactThumbOfSaid : Prop := fnExactThumbOfRow.holds Try.pinned (OpenSpec.ofChange fnExactThumbOfSpec)

/-- ITS FALSE NEIGHBOUR: 'it returns false'. Refute it at one input. -/
def fnExactThumbOfWrong : ChangeSpec := { name := "fnExactThumbOf", fn := fun _ => fun
  | [d] => { results := [.lit (.bool false)], args := [d] }
  | _ => none }
def FnExactThumbOfWrongFalsely : Prop := fnExactThumbOfRow.holds Try.pinned (OpenSpec.ofChange fnExactThumbOfWrong)

/-- 'laws.FnExactValidPanes': WHATEVER THE INPUT: true; the input reads as it did. -/
def fnExactValidPanesSpec : ChangeSpec := { name := "fnExactValidPanes", fn := fun _ => fun
  | [d] => { results := [.lit (.bool true)], args := [d] }
  | _ => none }
def fnExactValidPanesRow : OpenClaim := { program := "ytpbfbcdidkbjiaa", sum := "21af9cbb4fd216abbe1b74410b69bd2912f7204783c7f52a4fc9a73239d05989", func := "loop.example/widgetroom/laws.FnExactValidPanes", spec := "fnExactValidPanes", apart := false }
def FnExactValidPanesSaid : Prop := fnExactValidPanesRow.holds Try.pinned (OpenSpec.ofChange fnExactValidPanesSpec)

/-- ITS FALSE NEIGHBOUR: 'it returns false'. Refute it at one input. -/
def fnExactValidPanesWrong : ChangeSpec := { name := "fnExactValidPanes", fn := fun _ => fun
  | [d] => { results := [.lit (.bool false)], args := [d] }
  | _ => none }
def FnExactValidPanesWrongFalsely : Prop := fnExactValidPanesRow.holds Try.pinned (OpenSpec.ofChange fnExactValidPanesWrong)

/- THE SECOND FORM. 'bulk': how many values and letters a reading holds, each counted each time it is reached (what is shared counts as often as it is met; a slice's spare places count too). A statement '..UptoSaid' is the law's where the arguments, and the package variables that the reading takes, are together of bulk at most 1048576: NARROWER than '..Said'. Prove '..Said' where nothing that the law and all that it calls make is longer than what came in: it says more and counts as full. Else prove '..UptoSaid'. A law counts once. -/
mutual
def uptoBulk {H : Type} : DataW H → Nat
  | .lit (.string bytes) => bytes.length + 1
  | .lit _ => 1
  | .nil => 1
  | .ptr d => uptoBulk d + 1
  | .slice elems spare => uptoBulkAll elems + uptoBulkAll spare + 1
  | .agg parts => uptoBulkAll parts + 1
  | .iface _ d => uptoBulk d + 1
  | .map entries => uptoBulkEntries entries + 1
  | .held _ => 1
def uptoBulkAll {H : Type} : List (DataW H) → Nat
  | [] => 0
  | d :: r => uptoBulk d + uptoBulkAll r
def uptoBulkEntries {H : Type} : List (Lit × DataW H) → Nat
  | [] => 0
  | x :: r => uptoBulkEntry x + uptoBulkEntries r
def uptoBulkEntry {H : Type} : Lit × DataW H → Nat
  | (.string bytes, d) => bytes.length + uptoBulk d + 1
  | (_, d) => uptoBulk d + 1
 end
def uptoSmall : (H : Type) → List (DataW H) → Bool := fun _ ds => decide (uptoBulkAll ds ≤ 1048576)
def OpenSpec.upto (s : _root_.Go.ChangeSpec) : _root_.Go.OpenSpec := { _root_.Go.OpenSpec.ofChange s with cond := some uptoSmall }

/-- 'laws.FnExactValidView', WHERE WHAT IT READS IS OF BULK AT MOST 1048576: true; the input reads as it did. -/
def fnExactValidViewUptoRow : OpenClaim := { program := "ytpbfbcdidkbjiaa", sum := "21af9cbb4fd216abbe1b74410b69bd2912f7204783c7f52a4fc9a73239d05989", func := "loop.example/widgetroom/laws.FnExactValidView", spec := "fnExactValidView", apart := false, narrowed := true }
def FnExactValidViewUptoSaid : Prop := fnExactValidViewUptoRow.holds Try.pinned (OpenSpec.upto fnExactValidViewSpec)

/-- 'laws.FnExactScrollBy', WHERE WHAT IT READS IS OF BULK AT MOST 1048576: true; the input reads as it did. -/
def fnExactScrollByUptoRow : OpenClaim := { program := "ytpbfbcdidkbjiaa", sum := "21af9cbb4fd216abbe1b74410b69bd2912f7204783c7f52a4fc9a73239d05989", func := "loop.example/widgetroom/laws.FnExactScrollBy", spec := "fnExactScrollBy", apart := false, narrowed := true }
def FnExactScrollByUptoSaid : Prop := fnExactScrollByUptoRow.holds Try.pinned (OpenSpec.upto fnExactScrollBySpec)

/-- 'laws.FnExactMoveTo', WHERE WHAT IT READS IS OF BULK AT MOST 1048576: true; the input reads as it did. -/
def fnExactMoveToUptoRow : OpenClaim := { program := "ytpbfbcdidkbjiaa", sum := "21af9cbb4fd216abbe1b74410b69bd2912f7204783c7f52a4fc9a73239d05989", func := "loop.example/widgetroom/laws.FnExactMoveTo", spec := "fnExactMoveTo", apart := false, narrowed := true }
def FnExactMoveToUptoSaid : Prop := fnExactMoveToUptoRow.holds Try.pinned (OpenSpec.upto fnExactMoveToSpec)

/-- 'laws.FnExactSeeLine', WHERE WHAT IT READS IS OF BULK AT MOST 1048576: true; the input reads as it did. -/
def fnExactSeeLineUptoRow : OpenClaim := { program := "ytpbfbcdidkbjiaa", sum := "21af9cbb4fd216abbe1b74410b69bd2912f7204783c7f52a4fc9a73239d05989", func := "loop.example/widgetroom/laws.FnExactSeeLine", spec := "fnExactSeeLine", apart := false, narrowed := true }
def FnExactSeeLineUptoSaid : Prop := fnExactSeeLineUptoRow.holds Try.pinned (OpenSpec.upto fnExactSeeLineSpec)

/-- 'laws.FnExactThumbOf', WHERE WHAT IT READS IS OF BULK AT MOST 1048576: true; the input reads as it did. -/
def fnExactThumbOfUptoRow : OpenClaim := { program := "ytpbfbcdidkbjiaa", sum := "21af9cbb4fd216abbe1b74410b69bd2912f7204783c7f52a4fc9a73239d05989", func := "loop.example/widgetroom/laws.FnExactThumbOf", spec := "fnExactThumbOf", apart := false, narrowed := true }
def FnExactThumbOfUptoSaid : Prop := fnExactThumbOfUptoRow.holds Try.pinned (OpenSpec.upto fnExactThumbOfSpec)

/-- 'laws.FnExactValidPanes', WHERE WHAT IT READS IS OF BULK AT MOST 1048576: true; the input reads as it did. -/
def fnExactValidPanesUptoRow : OpenClaim := { program := "ytpbfbcdidkbjiaa", sum := "21af9cbb4fd216abbe1b74410b69bd2912f7204783c7f52a4fc9a73239d05989", func := "loop.example/widgetroom/laws.FnExactValidPanes", spec := "fnExactValidPanes", apart := false, narrowed := true }
def FnExactValidPanesUptoSaid : Prop := fnExactValidPanesUptoRow.holds Try.pinned (OpenSpec.upto fnExactValidPanesSpec)

end Rows
end Go.Proofs.Ytpbfbcdidkbjiaa
