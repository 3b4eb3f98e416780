/-
  No cell of these rows narrows 'for every input' (looked for: loops, veiled, ifaces, maps, wideKeys, modest, calm, conditions, laid).
  DERIVED. THE GIVEN ROWS OF THIS SEAT. 6 by the template 'for every input the law returns true; each argument reads behind the call as it read before'; 0 by the template 'total and deterministic' (their statements: YtfhjmmajhohkjaaTotals.lean).
  GIVEN WITH THE SEED: the statements are not yours to turn. If you find one false, say at which input.
  Laid BY PROGRAM, IN A SANDBOX (cutbox-rows.mjs): the forced cells as the released guide's own fill.sh prints them over the translation 1e9447b95efc2c08… (all of the seat's roots in one cut). By AI agents, Wed Nov 11 2026. No macro, syntax, notation, axiom, sorry.
-/
import Derived.Test.YtfhjmmajhohkjaaChecked
import GoSem.Claim
import GoSem.ClaimJoined
import GoSem.ClaimMapViews
import Derived.JoinedTies
import Derived.KernelRfl
namespace Go.Proofs.Ytfhjmmajhohkjaa
/- THE CELL 'sum', in the pinned program and in every row, IS THE sha256 OF THE DUMP (.gsa) THAT YtfhjmmajhohkjaaProg.lean LOADS. Nothing in Lean hashes anything: it is a label: what it is worth is what the hold of that sum in a sandbox is worth. -/
noncomputable def Try.pinned : Pinned := { name := "ytfhjmmajhohkjaa", sum := "1e9447b95efc2c08521fa3043d418505a60ce496505223a5984b2f6b102ea687", checked := Try.checked }
namespace Rows
def none {H : Type} : Left H := { results := [], args := [] }

/-- 'laws.FnExactValidPlace': WHATEVER THE INPUT: true; the input reads as it did. -/
def fnExactValidPlaceSpec : ChangeSpec := { name := "fnExactValidPlace", fn := fun _ => fun
  | [d] => { results := [.lit (.bool true)], args := [d] }
  | _ => none }
def fnExactValidPlaceRow : OpenClaim := { program := "ytfhjmmajhohkjaa", sum := "1e9447b95efc2c08521fa3043d418505a60ce496505223a5984b2f6b102ea687", func := "loop.example/widgetroom/laws.FnExactValidPlace", spec := "fnExactValidPlace", unfollowed := true, recurses := true, apart := false }
def FnExactValidPlaceSaid : Prop := fnExactValidPlaceRow.holds Try.pinned (OpenSpec.ofChange fnExactValidPlaceSpec)

/-- ITS FALSE NEIGHBOUR: 'it returns false'. Refute it at one input. -/
def fnExactValidPlaceWrong : ChangeSpec := { name := "fnExactValidPlace", fn := fun _ => fun
  | [d] => { results := [.lit (.bool false)], args := [d] }
  | _ => none }
def FnExactValidPlaceWrongFalsely : Prop := fnExactValidPlaceRow.holds Try.pinned (OpenSpec.ofChange fnExactValidPlaceWrong)

/-- 'laws.FnExactPlaceRect': WHATEVER THE INPUT: true; the input reads as it did. -/
def fnExactPlaceRectSpec : ChangeSpec := { name := "fnExactPlaceRect", fn := fun _ => fun
  | [d1, d2, d3] => { results := [.lit (.bool true)], args := [d1, d2, d3] }
  | _ => none }
def fnExactPlaceRectRow : OpenClaim := { program := "ytfhjmmajhohkjaa", sum := "1e9447b95efc2c08521fa3043d418505a60ce496505223a5984b2f6b102ea687", func := "loop.example/widgetroom/laws.FnExactPlaceRect", spec := "fnExactPlaceRect", unfollowed := true, recurses := true, apart := false }
def FnExactPlaceRectSaid : Prop := fnExactPlaceRectRow.holds Try.pinned (OpenSpec.ofChange fnExactPlaceRectSpec)

/-- ITS FALSE NEIGHBOUR: 'it returns false'. Refute it at one input. -/
def fnExactPlaceRectWrong : ChangeSpec := { name := "fnExactPlaceRect", fn := fun _ => fun
  | [d1, d2, d3] => { results := [.lit (.bool false)], args := [d1, d2, d3] }
  | _ => none }
def FnExactPlaceRectWrongFalsely : Prop := fnExactPlaceRectRow.holds Try.pinned (OpenSpec.ofChange fnExactPlaceRectWrong)

/-- 'laws.FnExactPlaceInside': WHATEVER THE INPUT: true; the input reads as it did. -/
def fnExactPlaceInsideSpec : ChangeSpec := { name := "fnExactPlaceInside", fn := fun _ => fun
  | [d1, d2, d3] => { results := [.lit (.bool true)], args := [d1, d2, d3] }
  | _ => none }
def fnExactPlaceInsideRow : OpenClaim := { program := "ytfhjmmajhohkjaa", sum := "1e9447b95efc2c08521fa3043d418505a60ce496505223a5984b2f6b102ea687", func := "loop.example/widgetroom/laws.FnExactPlaceInside", spec := "fnExactPlaceInside", unfollowed := true, recurses := true, apart := false }
def FnExactPlaceInsideSaid : Prop := fnExactPlaceInsideRow.holds Try.pinned (OpenSpec.ofChange fnExactPlaceInsideSpec)

/-- ITS FALSE NEIGHBOUR: 'it returns false'. Refute it at one input. -/
def fnExactPlaceInsideWrong : ChangeSpec := { name := "fnExactPlaceInside", fn := fun _ => fun
  | [d1, d2, d3] => { results := [.lit (.bool false)], args := [d1, d2, d3] }
  | _ => none }
def FnExactPlaceInsideWrongFalsely : Prop := fnExactPlaceInsideRow.holds Try.pinned (OpenSpec.ofChange fnExactPlaceInsideWrong)

/-- 'laws.FnExactLeastInside': WHATEVER THE INPUT: true; the input reads as it did. -/
def fnExactLeastInsideSpec : ChangeSpec := { name := "fnExactLeastInside", fn := fun _ => fun
  | [d] => { results := [.lit (.bool true)], args := [d] }
  | _ => none }
def fnExactLeastInsideRow : OpenClaim := { program := "ytfhjmmajhohkjaa", sum := "1e9447b95efc2c08521fa3043d418505a60ce496505223a5984b2f6b102ea687", func := "loop.example/widgetroom/laws.FnExactLeastInside", spec := "fnExactLeastInside", unfollowed := true, recurses := true, apart := false }
def FnExactLeastInsideSaid : Prop := fnExactLeastInsideRow.holds Try.pinned (OpenSpec.ofChange fnExactLeastInsideSpec)

/-- ITS FALSE NEIGHBOUR: 'it returns false'. Refute it at one input. -/
def fnExactLeastInsideWrong : ChangeSpec := { name := "fnExactLeastInside", fn := fun _ => fun
  | [d] => { results := [.lit (.bool false)], args := [d] }
  | _ => none }
def FnExactLeastInsideWrongFalsely : Prop := fnExactLeastInsideRow.holds Try.pinned (OpenSpec.ofChange fnExactLeastInsideWrong)

/-- 'laws.FnExactPlaceAt': WHATEVER THE INPUT: true; the input reads as it did. -/
def fnExactPlaceAtSpec : ChangeSpec := { name := "fnExactPlaceAt", fn := fun _ => fun
  | [d1, d2, d3, d4, d5] => { results := [.lit (.bool true)], args := [d1, d2, d3, d4, d5] }
  | _ => none }
def fnExactPlaceAtRow : OpenClaim := { program := "ytfhjmmajhohkjaa", sum := "1e9447b95efc2c08521fa3043d418505a60ce496505223a5984b2f6b102ea687", func := "loop.example/widgetroom/laws.FnExactPlaceAt", spec := "fnExactPlaceAt", unfollowed := true, recurses := true, apart := false }
def FnExactPlaceAtSaid : Prop := fnExactPlaceAtRow.holds Try.pinned (OpenSpec.ofChange fnExactPlaceAtSpec)

/-- ITS FALSE NEIGHBOUR: 'it returns false'. Refute it at one input. -/
def fnExactPlaceAtWrong : ChangeSpec := { name := "fnExactPlaceAt", fn := fun _ => fun
  | [d1, d2, d3, d4, d5] => { results := [.lit (.bool false)], args := [d1, d2, d3, d4, d5] }
  | _ => none }
def FnExactPlaceAtWrongFalsely : Prop := fnExactPlaceAtRow.holds Try.pinned (OpenSpec.ofChange fnExactPlaceAtWrong)

/-- 'laws.FnExactFixPlace': WHATEVER THE INPUT: true; the input reads as it did. -/
def fnExactFixPlaceSpec : ChangeSpec := { name := "fnExactFixPlace", fn := fun _ => fun
  | [d1, d2, d3] => { results := [.lit (.bool true)], args := [d1, d2, d3] }
  | _ => none }
def fnExactFixPlaceRow : OpenClaim := { program := "ytfhjmmajhohkjaa", sum := "1e9447b95efc2c08521fa3043d418505a60ce496505223a5984b2f6b102ea687", func := "loop.example/widgetroom/laws.FnExactFixPlace", spec := "fnExactFixPlace", unfollowed := true, recurses := true, apart := false }
def FnExactFixPlaceSaid : Prop := fnExactFixPlaceRow.holds Try.pinned (OpenSpec.ofChange fnExactFixPlaceSpec)

/-- ITS FALSE NEIGHBOUR: 'it returns false'. Refute it at one input. -/
def fnExactFixPlaceWrong : ChangeSpec := { name := "fnExactFixPlace", fn := fun _ => fun
  | [d1, d2, d3] => { results := [.lit (.bool false)], args := [d1, d2, d3] }
  | _ => none }
def FnExactFixPlaceWrongFalsely : Prop := fnExactFixPlaceRow.holds Try.pinned (OpenSpec.ofChange fnExactFixPlaceWrong)

/- THE SECOND FORM. 'bulk': how many values and letters a reading holds, each counted each time it is reached (what is shared counts as often as it is met; a slice's spare places count too). A statement '..UptoSaid' is the law's where the arguments, and the package variables that the reading takes, are together of bulk at most 1048576: NARROWER than '..Said'. Prove '..Said' where nothing that the law and all that it calls make is longer than what came in: it says more and counts as full. Else prove '..UptoSaid'. A law counts once. -/
mutual
def uptoBulk {H : Type} : DataW H → Nat
  | .lit (.string bytes) => bytes.length + 1
  | .lit _ => 1
  | .nil => 1
  | .ptr d => uptoBulk d + 1
  | .slice elems spare => uptoBulkAll elems + uptoBulkAll spare + 1
  | .agg parts => uptoBulkAll parts + 1
  | .iface _ d => uptoBulk d + 1
  | .map entries => uptoBulkEntries entries + 1
  | .held _ => 1
def uptoBulkAll {H : Type} : List (DataW H) → Nat
  | [] => 0
  | d :: r => uptoBulk d + uptoBulkAll r
def uptoBulkEntries {H : Type} : List (Lit × DataW H) → Nat
  | [] => 0
  | x :: r => uptoBulkEntry x + uptoBulkEntries r
def uptoBulkEntry {H : Type} : Lit × DataW H → Nat
  | (.string bytes, d) => bytes.length + uptoBulk d + 1
  | (_, d) => uptoBulk d + 1
 end
def uptoSmall : (H : Type) → List (DataW H) → Bool := fun _ ds => decide (uptoBulkAll ds ≤ 1048576)
def OpenSpec.upto (s : _root_.Go.ChangeSpec) : _root_.Go.OpenSpec := { _root_.Go.OpenSpec.ofChange s with cond := some uptoSmall }

/-- 'laws.FnExactValidPlace', WHERE WHAT IT READS IS OF BULK AT MOST 1048576: true; the input reads as it did. -/
def fnExactValidPlaceUptoRow : OpenClaim := { program := "ytfhjmmajhohkjaa", sum := "1e9447b95efc2c08521fa3043d418505a60ce496505223a5984b2f6b102ea687", func := "loop.example/widgetroom/laws.FnExactValidPlace", spec := "fnExactValidPlace", unfollowed := true, recurses := true, apart := false, narrowed := true }
def FnExactValidPlaceUptoSaid : Prop := fnExactValidPlaceUptoRow.holds Try.pinned (OpenSpec.upto fnExactValidPlaceSpec)

/-- 'laws.FnExactPlaceRect', WHERE WHAT IT READS IS OF BULK AT MOST 1048576: true; the input reads as it did. -/
def fnExactPlaceRectUptoRow : OpenClaim := { program := "ytfhjmmajhohkjaa", sum := "1e9447b95efc2c08521fa3043d418505a60ce496505223a5984b2f6b102ea687", func := "loop.example/widgetroom/laws.FnExactPlaceRect", spec := "fnExactPlaceRect", unfollowed := true, recurses := true, apart := false, narrowed := true }
def FnExactPlaceRectUptoSaid : Prop := fnExactPlaceRectUptoRow.holds Try.pinned (OpenSpec.upto fnExactPlaceRectSpec)

/-- 'laws.FnExactPlaceInside', WHERE WHAT IT READS IS OF BULK AT MOST 1048576: true; the input reads as it did. -/
def fnExactPlaceInsideUptoRow : OpenClaim := { program := "ytfhjmmajhohkjaa", sum := "1e9447b95efc2c08521fa3043d418505a60ce496505223a5984b2f6b102ea687", func := "loop.example/widgetroom/laws.FnExactPlaceInside", spec := "fnExactPlaceInside", unfollowed := true, recurses := true, apart := false, narrowed := true }
def FnExactPlaceInsideUptoSaid : Prop := fnExactPlaceInsideUptoRow.holds Try.pinned (OpenSpec.upto fnExactPlaceInsideSpec)

/-- 'laws.FnExactLeastInside', WHERE WHAT IT READS IS OF BULK AT MOST 1048576: true; the input reads as it did. -/
def fnExactLeastInsideUptoRow : OpenClaim := { program := "ytfhjmmajhohkjaa", sum := "1e9447b95efc2c08521fa3043d418505a60ce496505223a5984b2f6b102ea687", func := "loop.example/widgetroom/laws.FnExactLeastInside", spec := "fnExactLeastInside", unfollowed := true, recurses := true, apart := false, narrowed := true }
def FnExactLeastInsideUptoSaid : Prop := fnExactLeastInsideUptoRow.holds Try.pinned (OpenSpec.upto fnExactLeastInsideSpec)

/-- 'laws.FnExactPlaceAt', WHERE WHAT IT READS IS OF BULK AT MOST 1048576: true; the input reads as it did. -/
def fnExactPlaceAtUptoRow : OpenClaim := { program := "ytfhjmmajhohkjaa", sum := "1e9447b95efc2c08521fa3043d418505a60ce496505223a5984b2f6b102ea687", func := "loop.example/widgetroom/laws.FnExactPlaceAt", spec := "fnExactPlaceAt", unfollowed := true, recurses := true, apart := false, narrowed := true }
def FnExactPlaceAtUptoSaid : Prop := fnExactPlaceAtUptoRow.holds Try.pinned (OpenSpec.upto fnExactPlaceAtSpec)

/-- 'laws.FnExactFixPlace', WHERE WHAT IT READS IS OF BULK AT MOST 1048576: true; the input reads as it did. -/
def fnExactFixPlaceUptoRow : OpenClaim := { program := "ytfhjmmajhohkjaa", sum := "1e9447b95efc2c08521fa3043d418505a60ce496505223a5984b2f6b102ea687", func := "loop.example/widgetroom/laws.FnExactFixPlace", spec := "fnExactFixPlace", unfollowed := true, recurses := true, apart := false, narrowed := true }
def FnExactFixPlaceUptoSaid : Prop := fnExactFixPlaceUptoRow.holds Try.pinned (OpenSpec.upto fnExactFixPlaceSpec)

end Rows
end Go.Proofs.Ytfhjmmajhohkjaa
