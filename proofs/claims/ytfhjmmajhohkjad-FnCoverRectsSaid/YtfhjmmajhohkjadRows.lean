/-
  No cell of these rows narrows 'for every input' (looked for: loops, veiled, ifaces, maps, wideKeys, modest, calm, conditions, laid).
  DERIVED. THE GIVEN ROWS OF THIS SEAT. 6 by the template 'for every input the law returns true; each argument reads behind the call as it read before'; 0 by the template 'total and deterministic' (their statements: YtfhjmmajhohkjadTotals.lean).
  GIVEN WITH THE SEED: the statements are not yours to turn. If you find one false, say at which input.
  Laid BY PROGRAM, IN A SANDBOX (cutbox-rows.mjs): the forced cells as the released guide's own fill.sh prints them over the translation c0d267b82122a024… (all of the seat's roots in one cut). By AI agents, Wed Nov 11 2026. No macro, syntax, notation, axiom, sorry.
-/
import Derived.Test.YtfhjmmajhohkjadChecked
import GoSem.Claim
import GoSem.ClaimJoined
import GoSem.ClaimMapViews
import Derived.JoinedTies
import Derived.KernelRfl
namespace Go.Proofs.Ytfhjmmajhohkjad
/- THE CELL 'sum', in the pinned program and in every row, IS THE sha256 OF THE DUMP (.gsa) THAT YtfhjmmajhohkjadProg.lean LOADS. Nothing in Lean hashes anything: it is a label: what it is worth is what the hold of that sum in a sandbox is worth. -/
noncomputable def Try.pinned : Pinned := { name := "ytfhjmmajhohkjad", sum := "c0d267b82122a024526fca42864116e54b82f7cf16a9f964a7c24776419d6b37", checked := Try.checked }
namespace Rows
def none {H : Type} : Left H := { results := [], args := [] }

/-- 'laws.FnLineRequests': WHATEVER THE INPUT: true; the input reads as it did. -/
def fnLineRequestsSpec : ChangeSpec := { name := "fnLineRequests", fn := fun _ => fun
  | [d] => { results := [.lit (.bool true)], args := [d] }
  | _ => none }
def fnLineRequestsRow : OpenClaim := { program := "ytfhjmmajhohkjad", sum := "c0d267b82122a024526fca42864116e54b82f7cf16a9f964a7c24776419d6b37", func := "loop.example/widgetroom/laws.FnLineRequests", spec := "fnLineRequests", unfollowed := true, recurses := true, apart := false }
def FnLineRequestsSaid : Prop := fnLineRequestsRow.holds Try.pinned (OpenSpec.ofChange fnLineRequestsSpec)

/-- ITS FALSE NEIGHBOUR: 'it returns false'. Refute it at one input. -/
def fnLineRequestsWrong : ChangeSpec := { name := "fnLineRequests", fn := fun _ => fun
  | [d] => { results := [.lit (.bool false)], args := [d] }
  | _ => none }
def FnLineRequestsWrongFalsely : Prop := fnLineRequestsRow.holds Try.pinned (OpenSpec.ofChange fnLineRequestsWrong)

/-- 'laws.FnLineRequestsNone': WHATEVER THE INPUT: true; the input reads as it did. -/
def fnLineRequestsNoneSpec : ChangeSpec := { name := "fnLineRequestsNone", fn := fun _ => fun
  | [d] => { results := [.lit (.bool true)], args := [d] }
  | _ => none }
def fnLineRequestsNoneRow : OpenClaim := { program := "ytfhjmmajhohkjad", sum := "c0d267b82122a024526fca42864116e54b82f7cf16a9f964a7c24776419d6b37", func := "loop.example/widgetroom/laws.FnLineRequestsNone", spec := "fnLineRequestsNone", unfollowed := true, recurses := true, apart := false }
def FnLineRequestsNoneSaid : Prop := fnLineRequestsNoneRow.holds Try.pinned (OpenSpec.ofChange fnLineRequestsNoneSpec)

/-- ITS FALSE NEIGHBOUR: 'it returns false'. Refute it at one input. -/
def fnLineRequestsNoneWrong : ChangeSpec := { name := "fnLineRequestsNone", fn := fun _ => fun
  | [d] => { results := [.lit (.bool false)], args := [d] }
  | _ => none }
def FnLineRequestsNoneWrongFalsely : Prop := fnLineRequestsNoneRow.holds Try.pinned (OpenSpec.ofChange fnLineRequestsNoneWrong)

/-- 'laws.FnLineSizes': WHATEVER THE INPUT: true; the input reads as it did. -/
def fnLineSizesSpec : ChangeSpec := { name := "fnLineSizes", fn := fun _ => fun
  | [d] => { results := [.lit (.bool true)], args := [d] }
  | _ => none }
def fnLineSizesRow : OpenClaim := { program := "ytfhjmmajhohkjad", sum := "c0d267b82122a024526fca42864116e54b82f7cf16a9f964a7c24776419d6b37", func := "loop.example/widgetroom/laws.FnLineSizes", spec := "fnLineSizes", unfollowed := true, recurses := true, apart := false }
def FnLineSizesSaid : Prop := fnLineSizesRow.holds Try.pinned (OpenSpec.ofChange fnLineSizesSpec)

/-- ITS FALSE NEIGHBOUR: 'it returns false'. Refute it at one input. -/
def fnLineSizesWrong : ChangeSpec := { name := "fnLineSizes", fn := fun _ => fun
  | [d] => { results := [.lit (.bool false)], args := [d] }
  | _ => none }
def FnLineSizesWrongFalsely : Prop := fnLineSizesRow.holds Try.pinned (OpenSpec.ofChange fnLineSizesWrong)

/-- 'laws.FnLineSizesWish': WHATEVER THE INPUT: true; the input reads as it did. -/
def fnLineSizesWishSpec : ChangeSpec := { name := "fnLineSizesWish", fn := fun _ => fun
  | [d] => { results := [.lit (.bool true)], args := [d] }
  | _ => none }
def fnLineSizesWishRow : OpenClaim := { program := "ytfhjmmajhohkjad", sum := "c0d267b82122a024526fca42864116e54b82f7cf16a9f964a7c24776419d6b37", func := "loop.example/widgetroom/laws.FnLineSizesWish", spec := "fnLineSizesWish", unfollowed := true, recurses := true, apart := false }
def FnLineSizesWishSaid : Prop := fnLineSizesWishRow.holds Try.pinned (OpenSpec.ofChange fnLineSizesWishSpec)

/-- ITS FALSE NEIGHBOUR: 'it returns false'. Refute it at one input. -/
def fnLineSizesWishWrong : ChangeSpec := { name := "fnLineSizesWish", fn := fun _ => fun
  | [d] => { results := [.lit (.bool false)], args := [d] }
  | _ => none }
def FnLineSizesWishWrongFalsely : Prop := fnLineSizesWishRow.holds Try.pinned (OpenSpec.ofChange fnLineSizesWishWrong)

/-- 'laws.FnCoverRects': WHATEVER THE INPUT: true; the input reads as it did. -/
def fnCoverRectsSpec : ChangeSpec := { name := "fnCoverRects", fn := fun _ => fun
  | [d] => { results := [.lit (.bool true)], args := [d] }
  | _ => none }
def fnCoverRectsRow : OpenClaim := { program := "ytfhjmmajhohkjad", sum := "c0d267b82122a024526fca42864116e54b82f7cf16a9f964a7c24776419d6b37", func := "loop.example/widgetroom/laws.FnCoverRects", spec := "fnCoverRects", unfollowed := true, recurses := true, apart := false }
def FnCoverRectsSaid : Prop := fnCoverRectsRow.holds Try.pinned (OpenSpec.ofChange fnCoverRectsSpec)

/-- ITS FALSE NEIGHBOUR: 'it returns false'. Refute it at one input. -/
def fnCoverRectsWrong : ChangeSpec := { name := "fnCoverRects", fn := fun _ => fun
  | [d] => { results := [.lit (.bool false)], args := [d] }
  | _ => none }
def FnCoverRectsWrongFalsely : Prop := fnCoverRectsRow.holds Try.pinned (OpenSpec.ofChange fnCoverRectsWrong)

/-- 'laws.FnMoveRect': WHATEVER THE INPUT: true; the input reads as it did. -/
def fnMoveRectSpec : ChangeSpec := { name := "fnMoveRect", fn := fun _ => fun
  | [d] => { results := [.lit (.bool true)], args := [d] }
  | _ => none }
def fnMoveRectRow : OpenClaim := { program := "ytfhjmmajhohkjad", sum := "c0d267b82122a024526fca42864116e54b82f7cf16a9f964a7c24776419d6b37", func := "loop.example/widgetroom/laws.FnMoveRect", spec := "fnMoveRect", unfollowed := true, recurses := true, apart := false }
def FnMoveRectSaid : Prop := fnMoveRectRow.holds Try.pinned (OpenSpec.ofChange fnMoveRectSpec)

/-- ITS FALSE NEIGHBOUR: 'it returns false'. Refute it at one input. -/
def fnMoveRectWrong : ChangeSpec := { name := "fnMoveRect", fn := fun _ => fun
  | [d] => { results := [.lit (.bool false)], args := [d] }
  | _ => none }
def FnMoveRectWrongFalsely : Prop := fnMoveRectRow.holds Try.pinned (OpenSpec.ofChange fnMoveRectWrong)

/- THE SECOND FORM. 'bulk': how many values and letters a reading holds, each counted each time it is reached (what is shared counts as often as it is met; a slice's spare places count too). A statement '..UptoSaid' is the law's where the arguments, and the package variables that the reading takes, are together of bulk at most 1048576: NARROWER than '..Said'. Prove '..Said' where nothing that the law and all that it calls make is longer than what came in: it says more and counts as full. Else prove '..UptoSaid'. A law counts once. -/
mutual
def uptoBulk {H : Type} : DataW H → Nat
  | .lit (.string bytes) => bytes.length + 1
  | .lit _ => 1
  | .nil => 1
  | .ptr d => uptoBulk d + 1
  | .slice elems spare => uptoBulkAll elems + uptoBulkAll spare + 1
  | .agg parts => uptoBulkAll parts + 1
  | .iface _ d => uptoBulk d + 1
  | .map entries => uptoBulkEntries entries + 1
  | .held _ => 1
def uptoBulkAll {H : Type} : List (DataW H) → Nat
  | [] => 0
  | d :: r => uptoBulk d + uptoBulkAll r
def uptoBulkEntries {H : Type} : List (Lit × DataW H) → Nat
  | [] => 0
  | x :: r => uptoBulkEntry x + uptoBulkEntries r
def uptoBulkEntry {H : Type} : Lit × DataW H → Nat
  | (.string bytes, d) => bytes.length + uptoBulk d + 1
  | (_, d) => uptoBulk d + 1
 end
def uptoSmall : (H : Type) → List (DataW H) → Bool := fun _ ds => decide (uptoBulkAll ds ≤ 1048576)
def OpenSpec.upto (s : _root_.Go.ChangeSpec) : _root_.Go.OpenSpec := { _root_.Go.OpenSpec.ofChange s with cond := some uptoSmall }

/-- 'laws.FnLineRequests', WHERE WHAT IT READS IS OF BULK AT MOST 1048576: true; the input reads as it did. -/
def fnLineRequestsUptoRow : OpenClaim := { program := "ytfhjmmajhohkjad", sum := "c0d267b82122a024526fca42864116e54b82f7cf16a9f964a7c24776419d6b37", func := "loop.example/widgetroom/laws.FnLineRequests", spec := "fnLineRequests", unfollowed := true, recurses := true, apart := false, narrowed := true }
def FnLineRequestsUptoSaid : Prop := fnLineRequestsUptoRow.holds Try.pinned (OpenSpec.upto fnLineRequestsSpec)

/-- 'laws.FnLineRequestsNone', WHERE WHAT IT READS IS OF BULK AT MOST 1048576: true; the input reads as it did. -/
def fnLineRequestsNoneUptoRow : OpenClaim := { program := "ytfhjmmajhohkjad", sum := "c0d267b82122a024526fca42864116e54b82f7cf16a9f964a7c24776419d6b37", func := "loop.example/widgetroom/laws.FnLineRequestsNone", spec := "fnLineRequestsNone", unfollowed := true, recurses := true, apart := false, narrowed := true }
def FnLineRequestsNoneUptoSaid : Prop := fnLineRequestsNoneUptoRow.holds Try.pinned (OpenSpec.upto fnLineRequestsNoneSpec)

/-- 'laws.FnLineSizes', WHERE WHAT IT READS IS OF BULK AT MOST 1048576: true; the input reads as it did. -/
def fnLineSizesUptoRow : OpenClaim := { program := "ytfhjmmajhohkjad", sum := "c0d267b82122a024526fca42864116e54b82f7cf16a9f964a7c24776419d6b37", func := "loop.example/widgetroom/laws.FnLineSizes", spec := "fnLineSizes", unfollowed := true, recurses := true, apart := false, narrowed := true }
def FnLineSizesUptoSaid : Prop := fnLineSizesUptoRow.holds Try.pinned (OpenSpec.upto fnLineSizesSpec)

/-- 'laws.FnLineSizesWish', WHERE WHAT IT READS IS OF BULK AT MOST 1048576: true; the input reads as it did. -/
def fnLineSizesWishUptoRow : OpenClaim := { program := "ytfhjmmajhohkjad", sum := "c0d267b82122a024526fca42864116e54b82f7cf16a9f964a7c24776419d6b37", func := "loop.example/widgetroom/laws.FnLineSizesWish", spec := "fnLineSizesWish", unfollowed := true, recurses := true, apart := false, narrowed := true }
def FnLineSizesWishUptoSaid : Prop := fnLineSizesWishUptoRow.holds Try.pinned (OpenSpec.upto fnLineSizesWishSpec)

/-- 'laws.FnCoverRects', WHERE WHAT IT READS IS OF BULK AT MOST 1048576: true; the input reads as it did. -/
def fnCoverRectsUptoRow : OpenClaim := { program := "ytfhjmmajhohkjad", sum := "c0d267b82122a024526fca42864116e54b82f7cf16a9f964a7c24776419d6b37", func := "loop.example/widgetroom/laws.FnCoverRects", spec := "fnCoverRects", unfollowed := true, recurses := true, apart := false, narrowed := true }
def FnCoverRectsUptoSaid : Prop := fnCoverRectsUptoRow.holds Try.pinned (OpenSpec.upto fnCoverRectsSpec)

/-- 'laws.FnMoveRect', WHERE WHAT IT READS IS OF BULK AT MOST 1048576: true; the input reads as it did. -/
def fnMoveRectUptoRow : OpenClaim := { program := "ytfhjmmajhohkjad", sum := "c0d267b82122a024526fca42864116e54b82f7cf16a9f964a7c24776419d6b37", func := "loop.example/widgetroom/laws.FnMoveRect", spec := "fnMoveRect", unfollowed := true, recurses := true, apart := false, narrowed := true }
def FnMoveRectUptoSaid : Prop := fnMoveRectUptoRow.holds Try.pinned (OpenSpec.upto fnMoveRectSpec)

end Rows
end Go.Proofs.Ytfhjmmajhohkjad
