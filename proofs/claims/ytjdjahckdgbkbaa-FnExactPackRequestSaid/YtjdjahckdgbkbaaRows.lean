/-
  No cell of these rows narrows 'for every input' (looked for: loops, veiled, ifaces, maps, wideKeys, modest, calm, conditions, laid).
  DERIVED. THE GIVEN ROWS OF THIS SEAT. 6 by the template 'for every input the law returns true; each argument reads behind the call as it read before'; 0 by the template 'total and deterministic' (their statements: YtjdjahckdgbkbaaTotals.lean).
  GIVEN WITH THE SEED: the statements are not yours to turn. If you find one false, say at which input.
  Laid BY PROGRAM, IN A SANDBOX (cutbox-rows.mjs): the forced cells as the released guide's own fill.sh prints them over the translation 7d7005a67d14025a… (all of the seat's roots in one cut). By AI agents, Wed Nov 11 2026. No macro, syntax, notation, axiom, sorry.
-/
import Derived.Test.YtjdjahckdgbkbaaChecked
import GoSem.Claim
import GoSem.ClaimJoined
import GoSem.ClaimMapViews
import Derived.JoinedTies
import Derived.KernelRfl
namespace Go.Proofs.Ytjdjahckdgbkbaa
/- THE CELL 'sum', in the pinned program and in every row, IS THE sha256 OF THE DUMP (.gsa) THAT YtjdjahckdgbkbaaProg.lean LOADS. Nothing in Lean hashes anything: it is a label: what it is worth is what the hold of that sum in a sandbox is worth. -/
noncomputable def Try.pinned : Pinned := { name := "ytjdjahckdgbkbaa", sum := "7d7005a67d14025ad7fc20117bb0d9122d22eb7ddc546519e1770940566a167c", checked := Try.checked }
namespace Rows
def none {H : Type} : Left H := { results := [], args := [] }

/-- 'laws.FnExactValidPack': WHATEVER THE INPUT: true; the input reads as it did. -/
def fnExactValidPackSpec : ChangeSpec := { name := "fnExactValidPack", fn := fun _ => fun
  | [d] => { results := [.lit (.bool true)], args := [d] }
  | _ => none }
def fnExactValidPackRow : OpenClaim := { program := "ytjdjahckdgbkbaa", sum := "7d7005a67d14025ad7fc20117bb0d9122d22eb7ddc546519e1770940566a167c", func := "loop.example/widgetroom/laws.FnExactValidPack", spec := "fnExactValidPack", apart := false }
def FnExactValidPackSaid : Prop := fnExactValidPackRow.holds Try.pinned (OpenSpec.ofChange fnExactValidPackSpec)

/-- ITS FALSE NEIGHBOUR: 'it returns false'. Refute it at one input. -/
def fnExactValidPackWrong : ChangeSpec := { name := "fnExactValidPack", fn := fun _ => fun
  | [d] => { results := [.lit (.bool false)], args := [d] }
  | _ => none }
def FnExactValidPackWrongFalsely : Prop := fnExactValidPackRow.holds Try.pinned (OpenSpec.ofChange fnExactValidPackWrong)

/-- 'laws.FnExactPackRequest': WHATEVER THE INPUT: true; the input reads as it did. -/
def fnExactPackRequestSpec : ChangeSpec := { name := "fnExactPackRequest", fn := fun _ => fun
  | [d] => { results := [.lit (.bool true)], args := [d] }
  | _ => none }
def fnExactPackRequestRow : OpenClaim := { program := "ytjdjahckdgbkbaa", sum := "7d7005a67d14025ad7fc20117bb0d9122d22eb7ddc546519e1770940566a167c", func := "loop.example/widgetroom/laws.FnExactPackRequest", spec := "fnExactPackRequest", unfollowed := true, recurses := true, apart := false }
def FnExactPackRequestSaid : Prop := fnExactPackRequestRow.holds Try.pinned (OpenSpec.ofChange fnExactPackRequestSpec)

/-- ITS FALSE NEIGHBOUR: 'it returns false'. Refute it at one input. -/
def fnExactPackRequestWrong : ChangeSpec := { name := "fnExactPackRequest", fn := fun _ => fun
  | [d] => { results := [.lit (.bool false)], args := [d] }
  | _ => none }
def FnExactPackRequestWrongFalsely : Prop := fnExactPackRequestRow.holds Try.pinned (OpenSpec.ofChange fnExactPackRequestWrong)

/-- 'laws.FnExactExpandShare': WHATEVER THE INPUT: true; the input reads as it did. -/
def fnExactExpandShareSpec : ChangeSpec := { name := "fnExactExpandShare", fn := fun _ => fun
  | [d1, d2, d3] => { results := [.lit (.bool true)], args := [d1, d2, d3] }
  | _ => none }
def fnExactExpandShareRow : OpenClaim := { program := "ytjdjahckdgbkbaa", sum := "7d7005a67d14025ad7fc20117bb0d9122d22eb7ddc546519e1770940566a167c", func := "loop.example/widgetroom/laws.FnExactExpandShare", spec := "fnExactExpandShare", unfollowed := true, recurses := true, apart := false }
def FnExactExpandShareSaid : Prop := fnExactExpandShareRow.holds Try.pinned (OpenSpec.ofChange fnExactExpandShareSpec)

/-- ITS FALSE NEIGHBOUR: 'it returns false'. Refute it at one input. -/
def fnExactExpandShareWrong : ChangeSpec := { name := "fnExactExpandShare", fn := fun _ => fun
  | [d1, d2, d3] => { results := [.lit (.bool false)], args := [d1, d2, d3] }
  | _ => none }
def FnExactExpandShareWrongFalsely : Prop := fnExactExpandShareRow.holds Try.pinned (OpenSpec.ofChange fnExactExpandShareWrong)

/-- 'laws.FnExactPackParcels': WHATEVER THE INPUT: true; the input reads as it did. -/
def fnExactPackParcelsSpec : ChangeSpec := { name := "fnExactPackParcels", fn := fun _ => fun
  | [d1, d2, d3] => { results := [.lit (.bool true)], args := [d1, d2, d3] }
  | _ => none }
def fnExactPackParcelsRow : OpenClaim := { program := "ytjdjahckdgbkbaa", sum := "7d7005a67d14025ad7fc20117bb0d9122d22eb7ddc546519e1770940566a167c", func := "loop.example/widgetroom/laws.FnExactPackParcels", spec := "fnExactPackParcels", unfollowed := true, recurses := true, apart := false }
def FnExactPackParcelsSaid : Prop := fnExactPackParcelsRow.holds Try.pinned (OpenSpec.ofChange fnExactPackParcelsSpec)

/-- ITS FALSE NEIGHBOUR: 'it returns false'. Refute it at one input. -/
def fnExactPackParcelsWrong : ChangeSpec := { name := "fnExactPackParcels", fn := fun _ => fun
  | [d1, d2, d3] => { results := [.lit (.bool false)], args := [d1, d2, d3] }
  | _ => none }
def FnExactPackParcelsWrongFalsely : Prop := fnExactPackParcelsRow.holds Try.pinned (OpenSpec.ofChange fnExactPackParcelsWrong)

/-- 'laws.FnExactPackLeft': WHATEVER THE INPUT: true; the input reads as it did. -/
def fnExactPackLeftSpec : ChangeSpec := { name := "fnExactPackLeft", fn := fun _ => fun
  | [d1, d2, d3] => { results := [.lit (.bool true)], args := [d1, d2, d3] }
  | _ => none }
def fnExactPackLeftRow : OpenClaim := { program := "ytjdjahckdgbkbaa", sum := "7d7005a67d14025ad7fc20117bb0d9122d22eb7ddc546519e1770940566a167c", func := "loop.example/widgetroom/laws.FnExactPackLeft", spec := "fnExactPackLeft", unfollowed := true, recurses := true, apart := false }
def FnExactPackLeftSaid : Prop := fnExactPackLeftRow.holds Try.pinned (OpenSpec.ofChange fnExactPackLeftSpec)

/-- ITS FALSE NEIGHBOUR: 'it returns false'. Refute it at one input. -/
def fnExactPackLeftWrong : ChangeSpec := { name := "fnExactPackLeft", fn := fun _ => fun
  | [d1, d2, d3] => { results := [.lit (.bool false)], args := [d1, d2, d3] }
  | _ => none }
def FnExactPackLeftWrongFalsely : Prop := fnExactPackLeftRow.holds Try.pinned (OpenSpec.ofChange fnExactPackLeftWrong)

/-- 'laws.FnExactPackRects': WHATEVER THE INPUT: true; the input reads as it did. -/
def fnExactPackRectsSpec : ChangeSpec := { name := "fnExactPackRects", fn := fun _ => fun
  | [d1, d2, d3] => { results := [.lit (.bool true)], args := [d1, d2, d3] }
  | _ => none }
def fnExactPackRectsRow : OpenClaim := { program := "ytjdjahckdgbkbaa", sum := "7d7005a67d14025ad7fc20117bb0d9122d22eb7ddc546519e1770940566a167c", func := "loop.example/widgetroom/laws.FnExactPackRects", spec := "fnExactPackRects", unfollowed := true, recurses := true, apart := false }
def FnExactPackRectsSaid : Prop := fnExactPackRectsRow.holds Try.pinned (OpenSpec.ofChange fnExactPackRectsSpec)

/-- ITS FALSE NEIGHBOUR: 'it returns false'. Refute it at one input. -/
def fnExactPackRectsWrong : ChangeSpec := { name := "fnExactPackRects", fn := fun _ => fun
  | [d1, d2, d3] => { results := [.lit (.bool false)], args := [d1, d2, d3] }
  | _ => none }
def FnExactPackRectsWrongFalsely : Prop := fnExactPackRectsRow.holds Try.pinned (OpenSpec.ofChange fnExactPackRectsWrong)

/- THE SECOND FORM. 'bulk': how many values and letters a reading holds, each counted each time it is reached (what is shared counts as often as it is met; a slice's spare places count too). A statement '..UptoSaid' is the law's where the arguments, and the package variables that the reading takes, are together of bulk at most 1048576: NARROWER than '..Said'. Prove '..Said' where nothing that the law and all that it calls make is longer than what came in: it says more and counts as full. Else prove '..UptoSaid'. A law counts once. -/
mutual
def uptoBulk {H : Type} : DataW H → Nat
  | .lit (.string bytes) => bytes.length + 1
  | .lit _ => 1
  | .nil => 1
  | .ptr d => uptoBulk d + 1
  | .slice elems spare => uptoBulkAll elems + uptoBulkAll spare + 1
  | .agg parts => uptoBulkAll parts + 1
  | .iface _ d => uptoBulk d + 1
  | .map entries => uptoBulkEntries entries + 1
  | .held _ => 1
def uptoBulkAll {H : Type} : List (DataW H) → Nat
  | [] => 0
  | d :: r => uptoBulk d + uptoBulkAll r
def uptoBulkEntries {H : Type} : List (Lit × DataW H) → Nat
  | [] => 0
  | x :: r => uptoBulkEntry x + uptoBulkEntries r
def uptoBulkEntry {H : Type} : Lit × DataW H → Nat
  | (.string bytes, d) => bytes.length + uptoBulk d + 1
  | (_, d) => uptoBulk d + 1
 end
def uptoSmall : (H : Type) → List (DataW H) → Bool := fun _ ds => decide (uptoBulkAll ds ≤ 1048576)
def OpenSpec.upto (s : _root_.Go.ChangeSpec) : _root_.Go.OpenSpec := { _root_.Go.OpenSpec.ofChange s with cond := some uptoSmall }

/-- 'laws.FnExactValidPack', WHERE WHAT IT READS IS OF BULK AT MOST 1048576: true; the input reads as it did. -/
def fnExactValidPackUptoRow : OpenClaim := { program := "ytjdjahckdgbkbaa", sum := "7d7005a67d14025ad7fc20117bb0d9122d22eb7ddc546519e1770940566a167c", func := "loop.example/widgetroom/laws.FnExactValidPack", spec := "fnExactValidPack", apart := false, narrowed := true }
def FnExactValidPackUptoSaid : Prop := fnExactValidPackUptoRow.holds Try.pinned (OpenSpec.upto fnExactValidPackSpec)

/-- 'laws.FnExactPackRequest', WHERE WHAT IT READS IS OF BULK AT MOST 1048576: true; the input reads as it did. -/
def fnExactPackRequestUptoRow : OpenClaim := { program := "ytjdjahckdgbkbaa", sum := "7d7005a67d14025ad7fc20117bb0d9122d22eb7ddc546519e1770940566a167c", func := "loop.example/widgetroom/laws.FnExactPackRequest", spec := "fnExactPackRequest", unfollowed := true, recurses := true, apart := false, narrowed := true }
def FnExactPackRequestUptoSaid : Prop := fnExactPackRequestUptoRow.holds Try.pinned (OpenSpec.upto fnExactPackRequestSpec)

/-- 'laws.FnExactExpandShare', WHERE WHAT IT READS IS OF BULK AT MOST 1048576: true; the input reads as it did. -/
def fnExactExpandShareUptoRow : OpenClaim := { program := "ytjdjahckdgbkbaa", sum := "7d7005a67d14025ad7fc20117bb0d9122d22eb7ddc546519e1770940566a167c", func := "loop.example/widgetroom/laws.FnExactExpandShare", spec := "fnExactExpandShare", unfollowed := true, recurses := true, apart := false, narrowed := true }
def FnExactExpandShareUptoSaid : Prop := fnExactExpandShareUptoRow.holds Try.pinned (OpenSpec.upto fnExactExpandShareSpec)

/-- 'laws.FnExactPackParcels', WHERE WHAT IT READS IS OF BULK AT MOST 1048576: true; the input reads as it did. -/
def fnExactPackParcelsUptoRow : OpenClaim := { program := "ytjdjahckdgbkbaa", sum := "7d7005a67d14025ad7fc20117bb0d9122d22eb7ddc546519e1770940566a167c", func := "loop.example/widgetroom/laws.FnExactPackParcels", spec := "fnExactPackParcels", unfollowed := true, recurses := true, apart := false, narrowed := true }
def FnExactPackParcelsUptoSaid : Prop := fnExactPackParcelsUptoRow.holds Try.pinned (OpenSpec.upto fnExactPackParcelsSpec)

/-- 'laws.FnExactPackLeft', WHERE WHAT IT READS IS OF BULK AT MOST 1048576: true; the input reads as it did. -/
def fnExactPackLeftUptoRow : OpenClaim := { program := "ytjdjahckdgbkbaa", sum := "7d7005a67d14025ad7fc20117bb0d9122d22eb7ddc546519e1770940566a167c", func := "loop.example/widgetroom/laws.FnExactPackLeft", spec := "fnExactPackLeft", unfollowed := true, recurses := true, apart := false, narrowed := true }
def FnExactPackLeftUptoSaid : Prop := fnExactPackLeftUptoRow.holds Try.pinned (OpenSpec.upto fnExactPackLeftSpec)

/-- 'laws.FnExactPackRects', WHERE WHAT IT READS IS OF BULK AT MOST 1048576: true; the input reads as it did. -/
def fnExactPackRectsUptoRow : OpenClaim := { program := "ytjdjahckdgbkbaa", sum := "7d7005a67d14025ad7fc20117bb0d9122d22eb7ddc546519e1770940566a167c", func := "loop.example/widgetroom/laws.FnExactPackRects", spec := "fnExactPackRects", unfollowed := true, recurses := true, apart := false, narrowed := true }
def FnExactPackRectsUptoSaid : Prop := fnExactPackRectsUptoRow.holds Try.pinned (OpenSpec.upto fnExactPackRectsSpec)

end Rows
end Go.Proofs.Ytjdjahckdgbkbaa
