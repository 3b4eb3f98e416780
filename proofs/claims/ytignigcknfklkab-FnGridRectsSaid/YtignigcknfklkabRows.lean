/-
  No cell of these rows narrows 'for every input' (looked for: loops, veiled, ifaces, maps, wideKeys, modest, calm, conditions, laid).
  DERIVED. THE GIVEN ROWS OF THIS SEAT. 6 by the template 'for every input the law returns true; each argument reads behind the call as it read before'; 0 by the template 'total and deterministic' (their statements: YtignigcknfklkabTotals.lean).
  GIVEN WITH THE SEED: the statements are not yours to turn. If you find one false, say at which input.
  Laid BY PROGRAM, IN A SANDBOX (cutbox-rows.mjs): the forced cells as the released guide's own fill.sh prints them over the translation c3edae858ae4a667… (all of the seat's roots in one cut). By AI agents, Wed Nov 11 2026. No macro, syntax, notation, axiom, sorry.
-/
import Derived.Test.YtignigcknfklkabChecked
import GoSem.Claim
import GoSem.ClaimJoined
import GoSem.ClaimMapViews
import Derived.JoinedTies
import Derived.KernelRfl
namespace Go.Proofs.Ytignigcknfklkab
/- THE CELL 'sum', in the pinned program and in every row, IS THE sha256 OF THE DUMP (.gsa) THAT YtignigcknfklkabProg.lean LOADS. Nothing in Lean hashes anything: it is a label: what it is worth is what the hold of that sum in a sandbox is worth. -/
noncomputable def Try.pinned : Pinned := { name := "ytignigcknfklkab", sum := "c3edae858ae4a667067515d7d123ed935e7c563c700ffe16e2e7a663670cec47", checked := Try.checked }
namespace Rows
def none {H : Type} : Left H := { results := [], args := [] }

/-- 'laws.FnLineRequests': WHATEVER THE INPUT: true; the input reads as it did. -/
def fnLineRequestsSpec : ChangeSpec := { name := "fnLineRequests", fn := fun _ => fun
  | [d] => { results := [.lit (.bool true)], args := [d] }
  | _ => none }
def fnLineRequestsRow : OpenClaim := { program := "ytignigcknfklkab", sum := "c3edae858ae4a667067515d7d123ed935e7c563c700ffe16e2e7a663670cec47", func := "loop.example/widgetroom/laws.FnLineRequests", spec := "fnLineRequests", unfollowed := true, recurses := true, apart := false }
def FnLineRequestsSaid : Prop := fnLineRequestsRow.holds Try.pinned (OpenSpec.ofChange fnLineRequestsSpec)

/-- ITS FALSE NEIGHBOUR: 'it returns false'. Refute it at one input. -/
def fnLineRequestsWrong : ChangeSpec := { name := "fnLineRequests", fn := fun _ => fun
  | [d] => { results := [.lit (.bool false)], args := [d] }
  | _ => none }
def FnLineRequestsWrongFalsely : Prop := fnLineRequestsRow.holds Try.pinned (OpenSpec.ofChange fnLineRequestsWrong)

/-- 'laws.FnLineRequestsNone': WHATEVER THE INPUT: true; the input reads as it did. -/
def fnLineRequestsNoneSpec : ChangeSpec := { name := "fnLineRequestsNone", fn := fun _ => fun
  | [d] => { results := [.lit (.bool true)], args := [d] }
  | _ => none }
def fnLineRequestsNoneRow : OpenClaim := { program := "ytignigcknfklkab", sum := "c3edae858ae4a667067515d7d123ed935e7c563c700ffe16e2e7a663670cec47", func := "loop.example/widgetroom/laws.FnLineRequestsNone", spec := "fnLineRequestsNone", unfollowed := true, recurses := true, apart := false }
def FnLineRequestsNoneSaid : Prop := fnLineRequestsNoneRow.holds Try.pinned (OpenSpec.ofChange fnLineRequestsNoneSpec)

/-- ITS FALSE NEIGHBOUR: 'it returns false'. Refute it at one input. -/
def fnLineRequestsNoneWrong : ChangeSpec := { name := "fnLineRequestsNone", fn := fun _ => fun
  | [d] => { results := [.lit (.bool false)], args := [d] }
  | _ => none }
def FnLineRequestsNoneWrongFalsely : Prop := fnLineRequestsNoneRow.holds Try.pinned (OpenSpec.ofChange fnLineRequestsNoneWrong)

/-- 'laws.FnLineSizes': WHATEVER THE INPUT: true; the input reads as it did. -/
def fnLineSizesSpec : ChangeSpec := { name := "fnLineSizes", fn := fun _ => fun
  | [d] => { results := [.lit (.bool true)], args := [d] }
  | _ => none }
def fnLineSizesRow : OpenClaim := { program := "ytignigcknfklkab", sum := "c3edae858ae4a667067515d7d123ed935e7c563c700ffe16e2e7a663670cec47", func := "loop.example/widgetroom/laws.FnLineSizes", spec := "fnLineSizes", unfollowed := true, recurses := true, apart := false }
def FnLineSizesSaid : Prop := fnLineSizesRow.holds Try.pinned (OpenSpec.ofChange fnLineSizesSpec)

/-- ITS FALSE NEIGHBOUR: 'it returns false'. Refute it at one input. -/
def fnLineSizesWrong : ChangeSpec := { name := "fnLineSizes", fn := fun _ => fun
  | [d] => { results := [.lit (.bool false)], args := [d] }
  | _ => none }
def FnLineSizesWrongFalsely : Prop := fnLineSizesRow.holds Try.pinned (OpenSpec.ofChange fnLineSizesWrong)

/-- 'laws.FnLineSizesWish': WHATEVER THE INPUT: true; the input reads as it did. -/
def fnLineSizesWishSpec : ChangeSpec := { name := "fnLineSizesWish", fn := fun _ => fun
  | [d] => { results := [.lit (.bool true)], args := [d] }
  | _ => none }
def fnLineSizesWishRow : OpenClaim := { program := "ytignigcknfklkab", sum := "c3edae858ae4a667067515d7d123ed935e7c563c700ffe16e2e7a663670cec47", func := "loop.example/widgetroom/laws.FnLineSizesWish", spec := "fnLineSizesWish", unfollowed := true, recurses := true, apart := false }
def FnLineSizesWishSaid : Prop := fnLineSizesWishRow.holds Try.pinned (OpenSpec.ofChange fnLineSizesWishSpec)

/-- ITS FALSE NEIGHBOUR: 'it returns false'. Refute it at one input. -/
def fnLineSizesWishWrong : ChangeSpec := { name := "fnLineSizesWish", fn := fun _ => fun
  | [d] => { results := [.lit (.bool false)], args := [d] }
  | _ => none }
def FnLineSizesWishWrongFalsely : Prop := fnLineSizesWishRow.holds Try.pinned (OpenSpec.ofChange fnLineSizesWishWrong)

/-- 'laws.FnGridRects': WHATEVER THE INPUT: true; the input reads as it did. -/
def fnGridRectsSpec : ChangeSpec := { name := "fnGridRects", fn := fun _ => fun
  | [d] => { results := [.lit (.bool true)], args := [d] }
  | _ => none }
def fnGridRectsRow : OpenClaim := { program := "ytignigcknfklkab", sum := "c3edae858ae4a667067515d7d123ed935e7c563c700ffe16e2e7a663670cec47", func := "loop.example/widgetroom/laws.FnGridRects", spec := "fnGridRects", unfollowed := true, recurses := true, apart := false }
def FnGridRectsSaid : Prop := fnGridRectsRow.holds Try.pinned (OpenSpec.ofChange fnGridRectsSpec)

/-- ITS FALSE NEIGHBOUR: 'it returns false'. Refute it at one input. -/
def fnGridRectsWrong : ChangeSpec := { name := "fnGridRects", fn := fun _ => fun
  | [d] => { results := [.lit (.bool false)], args := [d] }
  | _ => none }
def FnGridRectsWrongFalsely : Prop := fnGridRectsRow.holds Try.pinned (OpenSpec.ofChange fnGridRectsWrong)

/-- 'laws.FnGridRectsApart': WHATEVER THE INPUT: true; the input reads as it did. -/
def fnGridRectsApartSpec : ChangeSpec := { name := "fnGridRectsApart", fn := fun _ => fun
  | [d] => { results := [.lit (.bool true)], args := [d] }
  | _ => none }
def fnGridRectsApartRow : OpenClaim := { program := "ytignigcknfklkab", sum := "c3edae858ae4a667067515d7d123ed935e7c563c700ffe16e2e7a663670cec47", func := "loop.example/widgetroom/laws.FnGridRectsApart", spec := "fnGridRectsApart", unfollowed := true, recurses := true, apart := false }
def FnGridRectsApartSaid : Prop := fnGridRectsApartRow.holds Try.pinned (OpenSpec.ofChange fnGridRectsApartSpec)

/-- ITS FALSE NEIGHBOUR: 'it returns false'. Refute it at one input. -/
def fnGridRectsApartWrong : ChangeSpec := { name := "fnGridRectsApart", fn := fun _ => fun
  | [d] => { results := [.lit (.bool false)], args := [d] }
  | _ => none }
def FnGridRectsApartWrongFalsely : Prop := fnGridRectsApartRow.holds Try.pinned (OpenSpec.ofChange fnGridRectsApartWrong)

/- THE SECOND FORM. 'bulk': how many values and letters a reading holds, each counted each time it is reached (what is shared counts as often as it is met; a slice's spare places count too). A statement '..UptoSaid' is the law's where the arguments, and the package variables that the reading takes, are together of bulk at most 1048576: NARROWER than '..Said'. Prove '..Said' where nothing that the law and all that it calls make is longer than what came in: it says more and counts as full. Else prove '..UptoSaid'. A law counts once. -/
mutual
def uptoBulk {H : Type} : DataW H → Nat
  | .lit (.string bytes) => bytes.length + 1
  | .lit _ => 1
  | .nil => 1
  | .ptr d => uptoBulk d + 1
  | .slice elems spare => uptoBulkAll elems + uptoBulkAll spare + 1
  | .agg parts => uptoBulkAll parts + 1
  | .iface _ d => uptoBulk d + 1
  | .map entries => uptoBulkEntries entries + 1
  | .held _ => 1
def uptoBulkAll {H : Type} : List (DataW H) → Nat
  | [] => 0
  | d :: r => uptoBulk d + uptoBulkAll r
def uptoBulkEntries {H : Type} : List (Lit × DataW H) → Nat
  | [] => 0
  | x :: r => uptoBulkEntry x + uptoBulkEntries r
def uptoBulkEntry {H : Type} : Lit × DataW H → Nat
  | (.string bytes, d) => bytes.length + uptoBulk d + 1
  | (_, d) => uptoBulk d + 1
 end
def uptoSmall : (H : Type) → List (DataW H) → Bool := fun _ ds => decide (uptoBulkAll ds ≤ 1048576)
def OpenSpec.upto (s : _root_.Go.ChangeSpec) : _root_.Go.OpenSpec := { _root_.Go.OpenSpec.ofChange s with cond := some uptoSmall }

/-- 'laws.FnLineRequests', WHERE WHAT IT READS IS OF BULK AT MOST 1048576: true; the input reads as it did. -/
def fnLineRequestsUptoRow : OpenClaim := { program := "ytignigcknfklkab", sum := "c3edae858ae4a667067515d7d123ed935e7c563c700ffe16e2e7a663670cec47", func := "loop.example/widgetroom/laws.FnLineRequests", spec := "fnLineRequests", unfollowed := true, recurses := true, apart := false, narrowed := true }
def FnLineRequestsUptoSaid : Prop := fnLineRequestsUptoRow.holds Try.pinned (OpenSpec.upto fnLineRequestsSpec)

/-- 'laws.FnLineRequestsNone', WHERE WHAT IT READS IS OF BULK AT MOST 1048576: true; the input reads as it did. -/
def fnLineRequestsNoneUptoRow : OpenClaim := { program := "ytignigcknfklkab", sum := "c3edae858ae4a667067515d7d123ed935e7c563c700ffe16e2e7a663670cec47", func := "loop.example/widgetroom/laws.FnLineRequestsNone", spec := "fnLineRequestsNone", unfollowed := true, recurses := true, apart := false, narrowed := true }
def FnLineRequestsNoneUptoSaid : Prop := fnLineRequestsNoneUptoRow.holds Try.pinned (OpenSpec.upto fnLineRequestsNoneSpec)

/-- 'laws.FnLineSizes', WHERE WHAT IT READS IS OF BULK AT MOST 1048576: true; the input reads as it did. -/
def fnLineSizesUptoRow : OpenClaim := { program := "ytignigcknfklkab", sum := "c3edae858ae4a667067515d7d123ed935e7c563c700ffe16e2e7a663670cec47", func := "loop.example/widgetroom/laws.FnLineSizes", spec := "fnLineSizes", unfollowed := true, recurses := true, apart := false, narrowed := true }
def FnLineSizesUptoSaid : Prop := fnLineSizesUptoRow.holds Try.pinned (OpenSpec.upto fnLineSizesSpec)

/-- 'laws.FnLineSizesWish', WHERE WHAT IT READS IS OF BULK AT MOST 1048576: true; the input reads as it did. -/
def fnLineSizesWishUptoRow : OpenClaim := { program := "ytignigcknfklkab", sum := "c3edae858ae4a667067515d7d123ed935e7c563c700ffe16e2e7a663670cec47", func := "loop.example/widgetroom/laws.FnLineSizesWish", spec := "fnLineSizesWish", unfollowed := true, recurses := true, apart := false, narrowed := true }
def FnLineSizesWishUptoSaid : Prop := fnLineSizesWishUptoRow.holds Try.pinned (OpenSpec.upto fnLineSizesWishSpec)

/-- 'laws.FnGridRects', WHERE WHAT IT READS IS OF BULK AT MOST 1048576: true; the input reads as it did. -/
def fnGridRectsUptoRow : OpenClaim := { program := "ytignigcknfklkab", sum := "c3edae858ae4a667067515d7d123ed935e7c563c700ffe16e2e7a663670cec47", func := "loop.example/widgetroom/laws.FnGridRects", spec := "fnGridRects", unfollowed := true, recurses := true, apart := false, narrowed := true }
def FnGridRectsUptoSaid : Prop := fnGridRectsUptoRow.holds Try.pinned (OpenSpec.upto fnGridRectsSpec)

/-- 'laws.FnGridRectsApart', WHERE WHAT IT READS IS OF BULK AT MOST 1048576: true; the input reads as it did. -/
def fnGridRectsApartUptoRow : OpenClaim := { program := "ytignigcknfklkab", sum := "c3edae858ae4a667067515d7d123ed935e7c563c700ffe16e2e7a663670cec47", func := "loop.example/widgetroom/laws.FnGridRectsApart", spec := "fnGridRectsApart", unfollowed := true, recurses := true, apart := false, narrowed := true }
def FnGridRectsApartUptoSaid : Prop := fnGridRectsApartUptoRow.holds Try.pinned (OpenSpec.upto fnGridRectsApartSpec)

end Rows
end Go.Proofs.Ytignigcknfklkab
