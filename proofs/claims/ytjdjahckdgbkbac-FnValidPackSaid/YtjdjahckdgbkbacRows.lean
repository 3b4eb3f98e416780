/-
  No cell of these rows narrows 'for every input' (looked for: loops, veiled, ifaces, maps, wideKeys, modest, calm, conditions, laid).
  DERIVED. THE GIVEN ROWS OF THIS SEAT. 6 by the template 'for every input the law returns true; each argument reads behind the call as it read before'; 0 by the template 'total and deterministic' (their statements: YtjdjahckdgbkbacTotals.lean).
  GIVEN WITH THE SEED: the statements are not yours to turn. If you find one false, say at which input.
  Laid BY PROGRAM, IN A SANDBOX (cutbox-rows.mjs): the forced cells as the released guide's own fill.sh prints them over the translation 54c29df1f484be0d… (all of the seat's roots in one cut). By AI agents, Wed Nov 11 2026. No macro, syntax, notation, axiom, sorry.
-/
import Derived.Test.YtjdjahckdgbkbacChecked
import GoSem.Claim
import GoSem.ClaimJoined
import GoSem.ClaimMapViews
import Derived.JoinedTies
import Derived.KernelRfl
namespace Go.Proofs.Ytjdjahckdgbkbac
/- THE CELL 'sum', in the pinned program and in every row, IS THE sha256 OF THE DUMP (.gsa) THAT YtjdjahckdgbkbacProg.lean LOADS. Nothing in Lean hashes anything: it is a label: what it is worth is what the hold of that sum in a sandbox is worth. -/
noncomputable def Try.pinned : Pinned := { name := "ytjdjahckdgbkbac", sum := "54c29df1f484be0db341029ae61c8f04b29f1cae2436e4b47b07b591ff83c42e", checked := Try.checked }
namespace Rows
def none {H : Type} : Left H := { results := [], args := [] }

/-- 'laws.FnValidPack': WHATEVER THE INPUT: true; the input reads as it did. -/
def fnValidPackSpec : ChangeSpec := { name := "fnValidPack", fn := fun _ => fun
  | [d] => { results := [.lit (.bool true)], args := [d] }
  | _ => none }
def fnValidPackRow : OpenClaim := { program := "ytjdjahckdgbkbac", sum := "54c29df1f484be0db341029ae61c8f04b29f1cae2436e4b47b07b591ff83c42e", func := "loop.example/widgetroom/laws.FnValidPack", spec := "fnValidPack", apart := false }
def FnValidPackSaid : Prop := fnValidPackRow.holds Try.pinned (OpenSpec.ofChange fnValidPackSpec)

/-- ITS FALSE NEIGHBOUR: 'it returns false'. Refute it at one input. -/
def fnValidPackWrong : ChangeSpec := { name := "fnValidPack", fn := fun _ => fun
  | [d] => { results := [.lit (.bool false)], args := [d] }
  | _ => none }
def FnValidPackWrongFalsely : Prop := fnValidPackRow.holds Try.pinned (OpenSpec.ofChange fnValidPackWrong)

/-- 'laws.FnPackRequest': WHATEVER THE INPUT: true; the input reads as it did. -/
def fnPackRequestSpec : ChangeSpec := { name := "fnPackRequest", fn := fun _ => fun
  | [d] => { results := [.lit (.bool true)], args := [d] }
  | _ => none }
def fnPackRequestRow : OpenClaim := { program := "ytjdjahckdgbkbac", sum := "54c29df1f484be0db341029ae61c8f04b29f1cae2436e4b47b07b591ff83c42e", func := "loop.example/widgetroom/laws.FnPackRequest", spec := "fnPackRequest", unfollowed := true, recurses := true, apart := false }
def FnPackRequestSaid : Prop := fnPackRequestRow.holds Try.pinned (OpenSpec.ofChange fnPackRequestSpec)

/-- ITS FALSE NEIGHBOUR: 'it returns false'. Refute it at one input. -/
def fnPackRequestWrong : ChangeSpec := { name := "fnPackRequest", fn := fun _ => fun
  | [d] => { results := [.lit (.bool false)], args := [d] }
  | _ => none }
def FnPackRequestWrongFalsely : Prop := fnPackRequestRow.holds Try.pinned (OpenSpec.ofChange fnPackRequestWrong)

/-- 'laws.FnExpandShare': WHATEVER THE INPUT: true; the input reads as it did. -/
def fnExpandShareSpec : ChangeSpec := { name := "fnExpandShare", fn := fun _ => fun
  | [d] => { results := [.lit (.bool true)], args := [d] }
  | _ => none }
def fnExpandShareRow : OpenClaim := { program := "ytjdjahckdgbkbac", sum := "54c29df1f484be0db341029ae61c8f04b29f1cae2436e4b47b07b591ff83c42e", func := "loop.example/widgetroom/laws.FnExpandShare", spec := "fnExpandShare", unfollowed := true, recurses := true, apart := false }
def FnExpandShareSaid : Prop := fnExpandShareRow.holds Try.pinned (OpenSpec.ofChange fnExpandShareSpec)

/-- ITS FALSE NEIGHBOUR: 'it returns false'. Refute it at one input. -/
def fnExpandShareWrong : ChangeSpec := { name := "fnExpandShare", fn := fun _ => fun
  | [d] => { results := [.lit (.bool false)], args := [d] }
  | _ => none }
def FnExpandShareWrongFalsely : Prop := fnExpandShareRow.holds Try.pinned (OpenSpec.ofChange fnExpandShareWrong)

/-- 'laws.FnExactValidGrid': WHATEVER THE INPUT: true; the input reads as it did. -/
def fnExactValidGridSpec : ChangeSpec := { name := "fnExactValidGrid", fn := fun _ => fun
  | [d] => { results := [.lit (.bool true)], args := [d] }
  | _ => none }
def fnExactValidGridRow : OpenClaim := { program := "ytjdjahckdgbkbac", sum := "54c29df1f484be0db341029ae61c8f04b29f1cae2436e4b47b07b591ff83c42e", func := "loop.example/widgetroom/laws.FnExactValidGrid", spec := "fnExactValidGrid", unfollowed := true, recurses := true, apart := false }
def FnExactValidGridSaid : Prop := fnExactValidGridRow.holds Try.pinned (OpenSpec.ofChange fnExactValidGridSpec)

/-- ITS FALSE NEIGHBOUR: 'it returns false'. Refute it at one input. -/
def fnExactValidGridWrong : ChangeSpec := { name := "fnExactValidGrid", fn := fun _ => fun
  | [d] => { results := [.lit (.bool false)], args := [d] }
  | _ => none }
def FnExactValidGridWrongFalsely : Prop := fnExactValidGridRow.holds Try.pinned (OpenSpec.ofChange fnExactValidGridWrong)

/-- 'laws.FnGridRequest': WHATEVER THE INPUT: true; the input reads as it did. -/
def fnGridRequestSpec : ChangeSpec := { name := "fnGridRequest", fn := fun _ => fun
  | [d] => { results := [.lit (.bool true)], args := [d] }
  | _ => none }
def fnGridRequestRow : OpenClaim := { program := "ytjdjahckdgbkbac", sum := "54c29df1f484be0db341029ae61c8f04b29f1cae2436e4b47b07b591ff83c42e", func := "loop.example/widgetroom/laws.FnGridRequest", spec := "fnGridRequest", unfollowed := true, recurses := true, apart := false }
def FnGridRequestSaid : Prop := fnGridRequestRow.holds Try.pinned (OpenSpec.ofChange fnGridRequestSpec)

/-- ITS FALSE NEIGHBOUR: 'it returns false'. Refute it at one input. -/
def fnGridRequestWrong : ChangeSpec := { name := "fnGridRequest", fn := fun _ => fun
  | [d] => { results := [.lit (.bool false)], args := [d] }
  | _ => none }
def FnGridRequestWrongFalsely : Prop := fnGridRequestRow.holds Try.pinned (OpenSpec.ofChange fnGridRequestWrong)

/-- 'laws.FnValidGrid': WHATEVER THE INPUT: true; the input reads as it did. -/
def fnValidGridSpec : ChangeSpec := { name := "fnValidGrid", fn := fun _ => fun
  | [d] => { results := [.lit (.bool true)], args := [d] }
  | _ => none }
def fnValidGridRow : OpenClaim := { program := "ytjdjahckdgbkbac", sum := "54c29df1f484be0db341029ae61c8f04b29f1cae2436e4b47b07b591ff83c42e", func := "loop.example/widgetroom/laws.FnValidGrid", spec := "fnValidGrid", unfollowed := true, recurses := true, apart := false }
def FnValidGridSaid : Prop := fnValidGridRow.holds Try.pinned (OpenSpec.ofChange fnValidGridSpec)

/-- ITS FALSE NEIGHBOUR: 'it returns false'. Refute it at one input. -/
def fnValidGridWrong : ChangeSpec := { name := "fnValidGrid", fn := fun _ => fun
  | [d] => { results := [.lit (.bool false)], args := [d] }
  | _ => none }
def FnValidGridWrongFalsely : Prop := fnValidGridRow.holds Try.pinned (OpenSpec.ofChange fnValidGridWrong)

/- THE SECOND FORM. 'bulk': how many values and letters a reading holds, each counted each time it is reached (what is shared counts as often as it is met; a slice's spare places count too). A statement '..UptoSaid' is the law's where the arguments, and the package variables that the reading takes, are together of bulk at most 1048576: NARROWER than '..Said'. Prove '..Said' where nothing that the law and all that it calls make is longer than what came in: it says more and counts as full. Else prove '..UptoSaid'. A law counts once. -/
mutual
def uptoBulk {H : Type} : DataW H → Nat
  | .lit (.string bytes) => bytes.length + 1
  | .lit _ => 1
  | .nil => 1
  | .ptr d => uptoBulk d + 1
  | .slice elems spare => uptoBulkAll elems + uptoBulkAll spare + 1
  | .agg parts => uptoBulkAll parts + 1
  | .iface _ d => uptoBulk d + 1
  | .map entries => uptoBulkEntries entries + 1
  | .held _ => 1
def uptoBulkAll {H : Type} : List (DataW H) → Nat
  | [] => 0
  | d :: r => uptoBulk d + uptoBulkAll r
def uptoBulkEntries {H : Type} : List (Lit × DataW H) → Nat
  | [] => 0
  | x :: r => uptoBulkEntry x + uptoBulkEntries r
def uptoBulkEntry {H : Type} : Lit × DataW H → Nat
  | (.string bytes, d) => bytes.length + uptoBulk d + 1
  | (_, d) => uptoBulk d + 1
 end
def uptoSmall : (H : Type) → List (DataW H) → Bool := fun _ ds => decide (uptoBulkAll ds ≤ 1048576)
def OpenSpec.upto (s : _root_.Go.ChangeSpec) : _root_.Go.OpenSpec := { _root_.Go.OpenSpec.ofChange s with cond := some uptoSmall }

/-- 'laws.FnValidPack', WHERE WHAT IT READS IS OF BULK AT MOST 1048576: true; the input reads as it did. -/
def fnValidPackUptoRow : OpenClaim := { program := "ytjdjahckdgbkbac", sum := "54c29df1f484be0db341029ae61c8f04b29f1cae2436e4b47b07b591ff83c42e", func := "loop.example/widgetroom/laws.FnValidPack", spec := "fnValidPack", apart := false, narrowed := true }
def FnValidPackUptoSaid : Prop := fnValidPackUptoRow.holds Try.pinned (OpenSpec.upto fnValidPackSpec)

/-- 'laws.FnPackRequest', WHERE WHAT IT READS IS OF BULK AT MOST 1048576: true; the input reads as it did. -/
def fnPackRequestUptoRow : OpenClaim := { program := "ytjdjahckdgbkbac", sum := "54c29df1f484be0db341029ae61c8f04b29f1cae2436e4b47b07b591ff83c42e", func := "loop.example/widgetroom/laws.FnPackRequest", spec := "fnPackRequest", unfollowed := true, recurses := true, apart := false, narrowed := true }
def FnPackRequestUptoSaid : Prop := fnPackRequestUptoRow.holds Try.pinned (OpenSpec.upto fnPackRequestSpec)

/-- 'laws.FnExpandShare', WHERE WHAT IT READS IS OF BULK AT MOST 1048576: true; the input reads as it did. -/
def fnExpandShareUptoRow : OpenClaim := { program := "ytjdjahckdgbkbac", sum := "54c29df1f484be0db341029ae61c8f04b29f1cae2436e4b47b07b591ff83c42e", func := "loop.example/widgetroom/laws.FnExpandShare", spec := "fnExpandShare", unfollowed := true, recurses := true, apart := false, narrowed := true }
def FnExpandShareUptoSaid : Prop := fnExpandShareUptoRow.holds Try.pinned (OpenSpec.upto fnExpandShareSpec)

/-- 'laws.FnExactValidGrid', WHERE WHAT IT READS IS OF BULK AT MOST 1048576: true; the input reads as it did. -/
def fnExactValidGridUptoRow : OpenClaim := { program := "ytjdjahckdgbkbac", sum := "54c29df1f484be0db341029ae61c8f04b29f1cae2436e4b47b07b591ff83c42e", func := "loop.example/widgetroom/laws.FnExactValidGrid", spec := "fnExactValidGrid", unfollowed := true, recurses := true, apart := false, narrowed := true }
def FnExactValidGridUptoSaid : Prop := fnExactValidGridUptoRow.holds Try.pinned (OpenSpec.upto fnExactValidGridSpec)

/-- 'laws.FnGridRequest', WHERE WHAT IT READS IS OF BULK AT MOST 1048576: true; the input reads as it did. -/
def fnGridRequestUptoRow : OpenClaim := { program := "ytjdjahckdgbkbac", sum := "54c29df1f484be0db341029ae61c8f04b29f1cae2436e4b47b07b591ff83c42e", func := "loop.example/widgetroom/laws.FnGridRequest", spec := "fnGridRequest", unfollowed := true, recurses := true, apart := false, narrowed := true }
def FnGridRequestUptoSaid : Prop := fnGridRequestUptoRow.holds Try.pinned (OpenSpec.upto fnGridRequestSpec)

/-- 'laws.FnValidGrid', WHERE WHAT IT READS IS OF BULK AT MOST 1048576: true; the input reads as it did. -/
def fnValidGridUptoRow : OpenClaim := { program := "ytjdjahckdgbkbac", sum := "54c29df1f484be0db341029ae61c8f04b29f1cae2436e4b47b07b591ff83c42e", func := "loop.example/widgetroom/laws.FnValidGrid", spec := "fnValidGrid", unfollowed := true, recurses := true, apart := false, narrowed := true }
def FnValidGridUptoSaid : Prop := fnValidGridUptoRow.holds Try.pinned (OpenSpec.upto fnValidGridSpec)

end Rows
end Go.Proofs.Ytjdjahckdgbkbac
