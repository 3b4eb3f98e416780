/-
  No cell of these rows narrows 'for every input' (looked for: loops, veiled, ifaces, maps, wideKeys, modest, calm, conditions, laid).
  DERIVED. THE GIVEN ROWS OF THIS SEAT. 6 by the template 'for every input the law returns true; each argument reads behind the call as it read before'; 0 by the template 'total and deterministic' (their statements: YtnkoeekgdehhiabTotals.lean).
  GIVEN WITH THE SEED: the statements are not yours to turn. If you find one false, say at which input.
  Laid BY PROGRAM, IN A SANDBOX (cutbox-rows.mjs): the forced cells as the released guide's own fill.sh prints them over the translation 10b7d1c89780e877… (all of the seat's roots in one cut). By AI agents, Wed Nov 11 2026. No macro, syntax, notation, axiom, sorry.
-/
import Derived.Test.YtnkoeekgdehhiabChecked
import GoSem.Claim
import GoSem.ClaimJoined
import GoSem.ClaimMapViews
import Derived.JoinedTies
import Derived.KernelRfl
namespace Go.Proofs.Ytnkoeekgdehhiab
/- THE CELL 'sum', in the pinned program and in every row, IS THE sha256 OF THE DUMP (.gsa) THAT YtnkoeekgdehhiabProg.lean LOADS. Nothing in Lean hashes anything: it is a label: what it is worth is what the hold of that sum in a sandbox is worth. -/
noncomputable def Try.pinned : Pinned := { name := "ytnkoeekgdehhiab", sum := "10b7d1c89780e8772e13ae8ce92e343781c9ffaffe58ff349b6234fcca0ab9ba", checked := Try.checked }
namespace Rows
def none {H : Type} : Left H := { results := [], args := [] }

/-- 'laws.FnPackRects': WHATEVER THE INPUT: true; the input reads as it did. -/
def fnPackRectsSpec : ChangeSpec := { name := "fnPackRects", fn := fun _ => fun
  | [d] => { results := [.lit (.bool true)], args := [d] }
  | _ => none }
def fnPackRectsRow : OpenClaim := { program := "ytnkoeekgdehhiab", sum := "10b7d1c89780e8772e13ae8ce92e343781c9ffaffe58ff349b6234fcca0ab9ba", func := "loop.example/widgetroom/laws.FnPackRects", spec := "fnPackRects", unfollowed := true, recurses := true, apart := false }
def FnPackRectsSaid : Prop := fnPackRectsRow.holds Try.pinned (OpenSpec.ofChange fnPackRectsSpec)

/-- ITS FALSE NEIGHBOUR: 'it returns false'. Refute it at one input. -/
def fnPackRectsWrong : ChangeSpec := { name := "fnPackRects", fn := fun _ => fun
  | [d] => { results := [.lit (.bool false)], args := [d] }
  | _ => none }
def FnPackRectsWrongFalsely : Prop := fnPackRectsRow.holds Try.pinned (OpenSpec.ofChange fnPackRectsWrong)

/-- 'laws.FnPackLeft': WHATEVER THE INPUT: true; the input reads as it did. -/
def fnPackLeftSpec : ChangeSpec := { name := "fnPackLeft", fn := fun _ => fun
  | [d] => { results := [.lit (.bool true)], args := [d] }
  | _ => none }
def fnPackLeftRow : OpenClaim := { program := "ytnkoeekgdehhiab", sum := "10b7d1c89780e8772e13ae8ce92e343781c9ffaffe58ff349b6234fcca0ab9ba", func := "loop.example/widgetroom/laws.FnPackLeft", spec := "fnPackLeft", unfollowed := true, recurses := true, apart := false }
def FnPackLeftSaid : Prop := fnPackLeftRow.holds Try.pinned (OpenSpec.ofChange fnPackLeftSpec)

/-- ITS FALSE NEIGHBOUR: 'it returns false'. Refute it at one input. -/
def fnPackLeftWrong : ChangeSpec := { name := "fnPackLeft", fn := fun _ => fun
  | [d] => { results := [.lit (.bool false)], args := [d] }
  | _ => none }
def FnPackLeftWrongFalsely : Prop := fnPackLeftRow.holds Try.pinned (OpenSpec.ofChange fnPackLeftWrong)

/-- 'laws.FnPackParcels': WHATEVER THE INPUT: true; the input reads as it did. -/
def fnPackParcelsSpec : ChangeSpec := { name := "fnPackParcels", fn := fun _ => fun
  | [d] => { results := [.lit (.bool true)], args := [d] }
  | _ => none }
def fnPackParcelsRow : OpenClaim := { program := "ytnkoeekgdehhiab", sum := "10b7d1c89780e8772e13ae8ce92e343781c9ffaffe58ff349b6234fcca0ab9ba", func := "loop.example/widgetroom/laws.FnPackParcels", spec := "fnPackParcels", unfollowed := true, recurses := true, apart := false }
def FnPackParcelsSaid : Prop := fnPackParcelsRow.holds Try.pinned (OpenSpec.ofChange fnPackParcelsSpec)

/-- ITS FALSE NEIGHBOUR: 'it returns false'. Refute it at one input. -/
def fnPackParcelsWrong : ChangeSpec := { name := "fnPackParcels", fn := fun _ => fun
  | [d] => { results := [.lit (.bool false)], args := [d] }
  | _ => none }
def FnPackParcelsWrongFalsely : Prop := fnPackParcelsRow.holds Try.pinned (OpenSpec.ofChange fnPackParcelsWrong)

/-- 'laws.FnPackParcelsFirst': WHATEVER THE INPUT: true; the input reads as it did. -/
def fnPackParcelsFirstSpec : ChangeSpec := { name := "fnPackParcelsFirst", fn := fun _ => fun
  | [d] => { results := [.lit (.bool true)], args := [d] }
  | _ => none }
def fnPackParcelsFirstRow : OpenClaim := { program := "ytnkoeekgdehhiab", sum := "10b7d1c89780e8772e13ae8ce92e343781c9ffaffe58ff349b6234fcca0ab9ba", func := "loop.example/widgetroom/laws.FnPackParcelsFirst", spec := "fnPackParcelsFirst", unfollowed := true, recurses := true, apart := false }
def FnPackParcelsFirstSaid : Prop := fnPackParcelsFirstRow.holds Try.pinned (OpenSpec.ofChange fnPackParcelsFirstSpec)

/-- ITS FALSE NEIGHBOUR: 'it returns false'. Refute it at one input. -/
def fnPackParcelsFirstWrong : ChangeSpec := { name := "fnPackParcelsFirst", fn := fun _ => fun
  | [d] => { results := [.lit (.bool false)], args := [d] }
  | _ => none }
def FnPackParcelsFirstWrongFalsely : Prop := fnPackParcelsFirstRow.holds Try.pinned (OpenSpec.ofChange fnPackParcelsFirstWrong)

/-- 'laws.FnPackRequest': WHATEVER THE INPUT: true; the input reads as it did. -/
def fnPackRequestSpec : ChangeSpec := { name := "fnPackRequest", fn := fun _ => fun
  | [d] => { results := [.lit (.bool true)], args := [d] }
  | _ => none }
def fnPackRequestRow : OpenClaim := { program := "ytnkoeekgdehhiab", sum := "10b7d1c89780e8772e13ae8ce92e343781c9ffaffe58ff349b6234fcca0ab9ba", func := "loop.example/widgetroom/laws.FnPackRequest", spec := "fnPackRequest", unfollowed := true, recurses := true, apart := false }
def FnPackRequestSaid : Prop := fnPackRequestRow.holds Try.pinned (OpenSpec.ofChange fnPackRequestSpec)

/-- ITS FALSE NEIGHBOUR: 'it returns false'. Refute it at one input. -/
def fnPackRequestWrong : ChangeSpec := { name := "fnPackRequest", fn := fun _ => fun
  | [d] => { results := [.lit (.bool false)], args := [d] }
  | _ => none }
def FnPackRequestWrongFalsely : Prop := fnPackRequestRow.holds Try.pinned (OpenSpec.ofChange fnPackRequestWrong)

/-- 'laws.FnExpandShare': WHATEVER THE INPUT: true; the input reads as it did. -/
def fnExpandShareSpec : ChangeSpec := { name := "fnExpandShare", fn := fun _ => fun
  | [d] => { results := [.lit (.bool true)], args := [d] }
  | _ => none }
def fnExpandShareRow : OpenClaim := { program := "ytnkoeekgdehhiab", sum := "10b7d1c89780e8772e13ae8ce92e343781c9ffaffe58ff349b6234fcca0ab9ba", func := "loop.example/widgetroom/laws.FnExpandShare", spec := "fnExpandShare", unfollowed := true, recurses := true, apart := false }
def FnExpandShareSaid : Prop := fnExpandShareRow.holds Try.pinned (OpenSpec.ofChange fnExpandShareSpec)

/-- ITS FALSE NEIGHBOUR: 'it returns false'. Refute it at one input. -/
def fnExpandShareWrong : ChangeSpec := { name := "fnExpandShare", fn := fun _ => fun
  | [d] => { results := [.lit (.bool false)], args := [d] }
  | _ => none }
def FnExpandShareWrongFalsely : Prop := fnExpandShareRow.holds Try.pinned (OpenSpec.ofChange fnExpandShareWrong)

/- THE SECOND FORM. 'bulk': how many values and letters a reading holds, each counted each time it is reached (what is shared counts as often as it is met; a slice's spare places count too). A statement '..UptoSaid' is the law's where the arguments, and the package variables that the reading takes, are together of bulk at most 1048576: NARROWER than '..Said'. Prove '..Said' where nothing that the law and all that it calls make is longer than what came in: it says more and counts as full. Else prove '..UptoSaid'. A law counts once. -/
mutual
def uptoBulk {H : Type} : DataW H → Nat
  | .lit (.string bytes) => bytes.length + 1
  | .lit _ => 1
  | .nil => 1
  | .ptr d => uptoBulk d + 1
  | .slice elems spare => uptoBulkAll elems + uptoBulkAll spare + 1
  | .agg parts => uptoBulkAll parts + 1
  | .iface _ d => uptoBulk d + 1
  | .map entries => uptoBulkEntries entries + 1
  | .held _ => 1
def uptoBulkAll {H : Type} : List (DataW H) → Nat
  | [] => 0
  | d :: r => uptoBulk d + uptoBulkAll r
def uptoBulkEntries {H : Type} : List (Lit × DataW H) → Nat
  | [] => 0
  | x :: r => uptoBulkEntry x + uptoBulkEntries r
def uptoBulkEntry {H : Type} : Lit × DataW H → Nat
  | (.string bytes, d) => bytes.length + uptoBulk d + 1
  | (_, d) => uptoBulk d + 1
 end
def uptoSmall : (H : Type) → List (DataW H) → Bool := fun _ ds => decide (uptoBulkAll ds ≤ 1048576)
def OpenSpec.upto (s : _root_.Go.ChangeSpec) : _root_.Go.OpenSpec := { _root_.Go.OpenSpec.ofChange s with cond := some uptoSmall }

/-- 'laws.FnPackRects', WHERE WHAT IT READS IS OF BULK AT MOST 1048576: true; the input reads as it did. -/
def fnPackRectsUptoRow : OpenClaim := { program := "ytnkoeekgdehhiab", sum := "10b7d1c89780e8772e13ae8ce92e343781c9ffaffe58ff349b6234fcca0ab9ba", func := "loop.example/widgetroom/laws.FnPackRects", spec := "fnPackRects", unfollowed := true, recurses := true, apart := false, narrowed := true }
def FnPackRectsUptoSaid : Prop := fnPackRectsUptoRow.holds Try.pinned (OpenSpec.upto fnPackRectsSpec)

/-- 'laws.FnPackLeft', WHERE WHAT IT READS IS OF BULK AT MOST 1048576: true; the input reads as it did. -/
def fnPackLeftUptoRow : OpenClaim := { program := "ytnkoeekgdehhiab", sum := "10b7d1c89780e8772e13ae8ce92e343781c9ffaffe58ff349b6234fcca0ab9ba", func := "loop.example/widgetroom/laws.FnPackLeft", spec := "fnPackLeft", unfollowed := true, recurses := true, apart := false, narrowed := true }
def FnPackLeftUptoSaid : Prop := fnPackLeftUptoRow.holds Try.pinned (OpenSpec.upto fnPackLeftSpec)

/-- 'laws.FnPackParcels', WHERE WHAT IT READS IS OF BULK AT MOST 1048576: true; the input reads as it did. -/
def fnPackParcelsUptoRow : OpenClaim := { program := "ytnkoeekgdehhiab", sum := "10b7d1c89780e8772e13ae8ce92e343781c9ffaffe58ff349b6234fcca0ab9ba", func := "loop.example/widgetroom/laws.FnPackParcels", spec := "fnPackParcels", unfollowed := true, recurses := true, apart := false, narrowed := true }
def FnPackParcelsUptoSaid : Prop := fnPackParcelsUptoRow.holds Try.pinned (OpenSpec.upto fnPackParcelsSpec)

/-- 'laws.FnPackParcelsFirst', WHERE WHAT IT READS IS OF BULK AT MOST 1048576: true; the input reads as it did. -/
def fnPackParcelsFirstUptoRow : OpenClaim := { program := "ytnkoeekgdehhiab", sum := "10b7d1c89780e8772e13ae8ce92e343781c9ffaffe58ff349b6234fcca0ab9ba", func := "loop.example/widgetroom/laws.FnPackParcelsFirst", spec := "fnPackParcelsFirst", unfollowed := true, recurses := true, apart := false, narrowed := true }
def FnPackParcelsFirstUptoSaid : Prop := fnPackParcelsFirstUptoRow.holds Try.pinned (OpenSpec.upto fnPackParcelsFirstSpec)

/-- 'laws.FnPackRequest', WHERE WHAT IT READS IS OF BULK AT MOST 1048576: true; the input reads as it did. -/
def fnPackRequestUptoRow : OpenClaim := { program := "ytnkoeekgdehhiab", sum := "10b7d1c89780e8772e13ae8ce92e343781c9ffaffe58ff349b6234fcca0ab9ba", func := "loop.example/widgetroom/laws.FnPackRequest", spec := "fnPackRequest", unfollowed := true, recurses := true, apart := false, narrowed := true }
def FnPackRequestUptoSaid : Prop := fnPackRequestUptoRow.holds Try.pinned (OpenSpec.upto fnPackRequestSpec)

/-- 'laws.FnExpandShare', WHERE WHAT IT READS IS OF BULK AT MOST 1048576: true; the input reads as it did. -/
def fnExpandShareUptoRow : OpenClaim := { program := "ytnkoeekgdehhiab", sum := "10b7d1c89780e8772e13ae8ce92e343781c9ffaffe58ff349b6234fcca0ab9ba", func := "loop.example/widgetroom/laws.FnExpandShare", spec := "fnExpandShare", unfollowed := true, recurses := true, apart := false, narrowed := true }
def FnExpandShareUptoSaid : Prop := fnExpandShareUptoRow.holds Try.pinned (OpenSpec.upto fnExpandShareSpec)

end Rows
end Go.Proofs.Ytnkoeekgdehhiab
