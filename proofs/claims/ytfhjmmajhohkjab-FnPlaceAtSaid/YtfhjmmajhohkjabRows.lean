/-
  No cell of these rows narrows 'for every input' (looked for: loops, veiled, ifaces, maps, wideKeys, modest, calm, conditions, laid).
  DERIVED. THE GIVEN ROWS OF THIS SEAT. 6 by the template 'for every input the law returns true; each argument reads behind the call as it read before'; 0 by the template 'total and deterministic' (their statements: YtfhjmmajhohkjabTotals.lean).
  GIVEN WITH THE SEED: the statements are not yours to turn. If you find one false, say at which input.
  Laid BY PROGRAM, IN A SANDBOX (cutbox-rows.mjs): the forced cells as the released guide's own fill.sh prints them over the translation 3a534790e3e833c8… (all of the seat's roots in one cut). By AI agents, Wed Nov 11 2026. No macro, syntax, notation, axiom, sorry.
-/
import Derived.Test.YtfhjmmajhohkjabChecked
import GoSem.Claim
import GoSem.ClaimJoined
import GoSem.ClaimMapViews
import Derived.JoinedTies
import Derived.KernelRfl
namespace Go.Proofs.Ytfhjmmajhohkjab
/- THE CELL 'sum', in the pinned program and in every row, IS THE sha256 OF THE DUMP (.gsa) THAT YtfhjmmajhohkjabProg.lean LOADS. Nothing in Lean hashes anything: it is a label: what it is worth is what the hold of that sum in a sandbox is worth. -/
noncomputable def Try.pinned : Pinned := { name := "ytfhjmmajhohkjab", sum := "3a534790e3e833c8ba734c70728397b50389a8879bda2e728fb90bc48df59d21", checked := Try.checked }
namespace Rows
def none {H : Type} : Left H := { results := [], args := [] }

/-- 'laws.FnValidPlace': WHATEVER THE INPUT: true; the input reads as it did. -/
def fnValidPlaceSpec : ChangeSpec := { name := "fnValidPlace", fn := fun _ => fun
  | [d] => { results := [.lit (.bool true)], args := [d] }
  | _ => none }
def fnValidPlaceRow : OpenClaim := { program := "ytfhjmmajhohkjab", sum := "3a534790e3e833c8ba734c70728397b50389a8879bda2e728fb90bc48df59d21", func := "loop.example/widgetroom/laws.FnValidPlace", spec := "fnValidPlace", unfollowed := true, recurses := true, apart := false }
def FnValidPlaceSaid : Prop := fnValidPlaceRow.holds Try.pinned (OpenSpec.ofChange fnValidPlaceSpec)

/-- ITS FALSE NEIGHBOUR: 'it returns false'. Refute it at one input. -/
def fnValidPlaceWrong : ChangeSpec := { name := "fnValidPlace", fn := fun _ => fun
  | [d] => { results := [.lit (.bool false)], args := [d] }
  | _ => none }
def FnValidPlaceWrongFalsely : Prop := fnValidPlaceRow.holds Try.pinned (OpenSpec.ofChange fnValidPlaceWrong)

/-- 'laws.FnPlaceRect': WHATEVER THE INPUT: true; the input reads as it did. -/
def fnPlaceRectSpec : ChangeSpec := { name := "fnPlaceRect", fn := fun _ => fun
  | [d] => { results := [.lit (.bool true)], args := [d] }
  | _ => none }
def fnPlaceRectRow : OpenClaim := { program := "ytfhjmmajhohkjab", sum := "3a534790e3e833c8ba734c70728397b50389a8879bda2e728fb90bc48df59d21", func := "loop.example/widgetroom/laws.FnPlaceRect", spec := "fnPlaceRect", unfollowed := true, recurses := true, apart := false }
def FnPlaceRectSaid : Prop := fnPlaceRectRow.holds Try.pinned (OpenSpec.ofChange fnPlaceRectSpec)

/-- ITS FALSE NEIGHBOUR: 'it returns false'. Refute it at one input. -/
def fnPlaceRectWrong : ChangeSpec := { name := "fnPlaceRect", fn := fun _ => fun
  | [d] => { results := [.lit (.bool false)], args := [d] }
  | _ => none }
def FnPlaceRectWrongFalsely : Prop := fnPlaceRectRow.holds Try.pinned (OpenSpec.ofChange fnPlaceRectWrong)

/-- 'laws.FnPlaceInside': WHATEVER THE INPUT: true; the input reads as it did. -/
def fnPlaceInsideSpec : ChangeSpec := { name := "fnPlaceInside", fn := fun _ => fun
  | [d] => { results := [.lit (.bool true)], args := [d] }
  | _ => none }
def fnPlaceInsideRow : OpenClaim := { program := "ytfhjmmajhohkjab", sum := "3a534790e3e833c8ba734c70728397b50389a8879bda2e728fb90bc48df59d21", func := "loop.example/widgetroom/laws.FnPlaceInside", spec := "fnPlaceInside", unfollowed := true, recurses := true, apart := false }
def FnPlaceInsideSaid : Prop := fnPlaceInsideRow.holds Try.pinned (OpenSpec.ofChange fnPlaceInsideSpec)

/-- ITS FALSE NEIGHBOUR: 'it returns false'. Refute it at one input. -/
def fnPlaceInsideWrong : ChangeSpec := { name := "fnPlaceInside", fn := fun _ => fun
  | [d] => { results := [.lit (.bool false)], args := [d] }
  | _ => none }
def FnPlaceInsideWrongFalsely : Prop := fnPlaceInsideRow.holds Try.pinned (OpenSpec.ofChange fnPlaceInsideWrong)

/-- 'laws.FnLeastInside': WHATEVER THE INPUT: true; the input reads as it did. -/
def fnLeastInsideSpec : ChangeSpec := { name := "fnLeastInside", fn := fun _ => fun
  | [d] => { results := [.lit (.bool true)], args := [d] }
  | _ => none }
def fnLeastInsideRow : OpenClaim := { program := "ytfhjmmajhohkjab", sum := "3a534790e3e833c8ba734c70728397b50389a8879bda2e728fb90bc48df59d21", func := "loop.example/widgetroom/laws.FnLeastInside", spec := "fnLeastInside", unfollowed := true, recurses := true, apart := false }
def FnLeastInsideSaid : Prop := fnLeastInsideRow.holds Try.pinned (OpenSpec.ofChange fnLeastInsideSpec)

/-- ITS FALSE NEIGHBOUR: 'it returns false'. Refute it at one input. -/
def fnLeastInsideWrong : ChangeSpec := { name := "fnLeastInside", fn := fun _ => fun
  | [d] => { results := [.lit (.bool false)], args := [d] }
  | _ => none }
def FnLeastInsideWrongFalsely : Prop := fnLeastInsideRow.holds Try.pinned (OpenSpec.ofChange fnLeastInsideWrong)

/-- 'laws.FnPlaceAt': WHATEVER THE INPUT: true; the input reads as it did. -/
def fnPlaceAtSpec : ChangeSpec := { name := "fnPlaceAt", fn := fun _ => fun
  | [d] => { results := [.lit (.bool true)], args := [d] }
  | _ => none }
def fnPlaceAtRow : OpenClaim := { program := "ytfhjmmajhohkjab", sum := "3a534790e3e833c8ba734c70728397b50389a8879bda2e728fb90bc48df59d21", func := "loop.example/widgetroom/laws.FnPlaceAt", spec := "fnPlaceAt", unfollowed := true, recurses := true, apart := false }
def FnPlaceAtSaid : Prop := fnPlaceAtRow.holds Try.pinned (OpenSpec.ofChange fnPlaceAtSpec)

/-- ITS FALSE NEIGHBOUR: 'it returns false'. Refute it at one input. -/
def fnPlaceAtWrong : ChangeSpec := { name := "fnPlaceAt", fn := fun _ => fun
  | [d] => { results := [.lit (.bool false)], args := [d] }
  | _ => none }
def FnPlaceAtWrongFalsely : Prop := fnPlaceAtRow.holds Try.pinned (OpenSpec.ofChange fnPlaceAtWrong)

/-- 'laws.FnFixPlace': WHATEVER THE INPUT: true; the input reads as it did. -/
def fnFixPlaceSpec : ChangeSpec := { name := "fnFixPlace", fn := fun _ => fun
  | [d] => { results := [.lit (.bool true)], args := [d] }
  | _ => none }
def fnFixPlaceRow : OpenClaim := { program := "ytfhjmmajhohkjab", sum := "3a534790e3e833c8ba734c70728397b50389a8879bda2e728fb90bc48df59d21", func := "loop.example/widgetroom/laws.FnFixPlace", spec := "fnFixPlace", unfollowed := true, recurses := true, apart := false }
def FnFixPlaceSaid : Prop := fnFixPlaceRow.holds Try.pinned (OpenSpec.ofChange fnFixPlaceSpec)

/-- ITS FALSE NEIGHBOUR: 'it returns false'. Refute it at one input. -/
def fnFixPlaceWrong : ChangeSpec := { name := "fnFixPlace", fn := fun _ => fun
  | [d] => { results := [.lit (.bool false)], args := [d] }
  | _ => none }
def FnFixPlaceWrongFalsely : Prop := fnFixPlaceRow.holds Try.pinned (OpenSpec.ofChange fnFixPlaceWrong)

/- THE SECOND FORM. 'bulk': how many values and letters a reading holds, each counted each time it is reached (what is shared counts as often as it is met; a slice's spare places count too). A statement '..UptoSaid' is the law's where the arguments, and the package variables that the reading takes, are together of bulk at most 1048576: NARROWER than '..Said'. Prove '..Said' where nothing that the law and all that it calls make is longer than what came in: it says more and counts as full. Else prove '..UptoSaid'. A law counts once. -/
mutual
def uptoBulk {H : Type} : DataW H → Nat
  | .lit (.string bytes) => bytes.length + 1
  | .lit _ => 1
  | .nil => 1
  | .ptr d => uptoBulk d + 1
  | .slice elems spare => uptoBulkAll elems + uptoBulkAll spare + 1
  | .agg parts => uptoBulkAll parts + 1
  | .iface _ d => uptoBulk d + 1
  | .map entries => uptoBulkEntries entries + 1
  | .held _ => 1
def uptoBulkAll {H : Type} : List (DataW H) → Nat
  | [] => 0
  | d :: r => uptoBulk d + uptoBulkAll r
def uptoBulkEntries {H : Type} : List (Lit × DataW H) → Nat
  | [] => 0
  | x :: r => uptoBulkEntry x + uptoBulkEntries r
def uptoBulkEntry {H : Type} : Lit × DataW H → Nat
  | (.string bytes, d) => bytes.length + uptoBulk d + 1
  | (_, d) => uptoBulk d + 1
 end
def uptoSmall : (H : Type) → List (DataW H) → Bool := fun _ ds => decide (uptoBulkAll ds ≤ 1048576)
def OpenSpec.upto (s : _root_.Go.ChangeSpec) : _root_.Go.OpenSpec := { _root_.Go.OpenSpec.ofChange s with cond := some uptoSmall }

/-- 'laws.FnValidPlace', WHERE WHAT IT READS IS OF BULK AT MOST 1048576: true; the input reads as it did. -/
def fnValidPlaceUptoRow : OpenClaim := { program := "ytfhjmmajhohkjab", sum := "3a534790e3e833c8ba734c70728397b50389a8879bda2e728fb90bc48df59d21", func := "loop.example/widgetroom/laws.FnValidPlace", spec := "fnValidPlace", unfollowed := true, recurses := true, apart := false, narrowed := true }
def FnValidPlaceUptoSaid : Prop := fnValidPlaceUptoRow.holds Try.pinned (OpenSpec.upto fnValidPlaceSpec)

/-- 'laws.FnPlaceRect', WHERE WHAT IT READS IS OF BULK AT MOST 1048576: true; the input reads as it did. -/
def fnPlaceRectUptoRow : OpenClaim := { program := "ytfhjmmajhohkjab", sum := "3a534790e3e833c8ba734c70728397b50389a8879bda2e728fb90bc48df59d21", func := "loop.example/widgetroom/laws.FnPlaceRect", spec := "fnPlaceRect", unfollowed := true, recurses := true, apart := false, narrowed := true }
def FnPlaceRectUptoSaid : Prop := fnPlaceRectUptoRow.holds Try.pinned (OpenSpec.upto fnPlaceRectSpec)

/-- 'laws.FnPlaceInside', WHERE WHAT IT READS IS OF BULK AT MOST 1048576: true; the input reads as it did. -/
def fnPlaceInsideUptoRow : OpenClaim := { program := "ytfhjmmajhohkjab", sum := "3a534790e3e833c8ba734c70728397b50389a8879bda2e728fb90bc48df59d21", func := "loop.example/widgetroom/laws.FnPlaceInside", spec := "fnPlaceInside", unfollowed := true, recurses := true, apart := false, narrowed := true }
def FnPlaceInsideUptoSaid : Prop := fnPlaceInsideUptoRow.holds Try.pinned (OpenSpec.upto fnPlaceInsideSpec)

/-- 'laws.FnLeastInside', WHERE WHAT IT READS IS OF BULK AT MOST 1048576: true; the input reads as it did. -/
def fnLeastInsideUptoRow : OpenClaim := { program := "ytfhjmmajhohkjab", sum := "3a534790e3e833c8ba734c70728397b50389a8879bda2e728fb90bc48df59d21", func := "loop.example/widgetroom/laws.FnLeastInside", spec := "fnLeastInside", unfollowed := true, recurses := true, apart := false, narrowed := true }
def FnLeastInsideUptoSaid : Prop := fnLeastInsideUptoRow.holds Try.pinned (OpenSpec.upto fnLeastInsideSpec)

/-- 'laws.FnPlaceAt', WHERE WHAT IT READS IS OF BULK AT MOST 1048576: true; the input reads as it did. -/
def fnPlaceAtUptoRow : OpenClaim := { program := "ytfhjmmajhohkjab", sum := "3a534790e3e833c8ba734c70728397b50389a8879bda2e728fb90bc48df59d21", func := "loop.example/widgetroom/laws.FnPlaceAt", spec := "fnPlaceAt", unfollowed := true, recurses := true, apart := false, narrowed := true }
def FnPlaceAtUptoSaid : Prop := fnPlaceAtUptoRow.holds Try.pinned (OpenSpec.upto fnPlaceAtSpec)

/-- 'laws.FnFixPlace', WHERE WHAT IT READS IS OF BULK AT MOST 1048576: true; the input reads as it did. -/
def fnFixPlaceUptoRow : OpenClaim := { program := "ytfhjmmajhohkjab", sum := "3a534790e3e833c8ba734c70728397b50389a8879bda2e728fb90bc48df59d21", func := "loop.example/widgetroom/laws.FnFixPlace", spec := "fnFixPlace", unfollowed := true, recurses := true, apart := false, narrowed := true }
def FnFixPlaceUptoSaid : Prop := fnFixPlaceUptoRow.holds Try.pinned (OpenSpec.upto fnFixPlaceSpec)

end Rows
end Go.Proofs.Ytfhjmmajhohkjab
