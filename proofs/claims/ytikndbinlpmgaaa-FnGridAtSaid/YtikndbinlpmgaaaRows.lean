/-
  No cell of these rows narrows 'for every input' (looked for: loops, veiled, ifaces, maps, wideKeys, modest, calm, conditions, laid).
  DERIVED. THE GIVEN ROWS OF THIS SEAT. 6 by the template 'for every input the law returns true; each argument reads behind the call as it read before'; 0 by the template 'total and deterministic' (their statements: YtikndbinlpmgaaaTotals.lean).
  GIVEN WITH THE SEED: the statements are not yours to turn. If you find one false, say at which input.
  Laid BY PROGRAM, IN A SANDBOX (cutbox-rows.mjs): the forced cells as the released guide's own fill.sh prints them over the translation fef824f2644c0390… (all of the seat's roots in one cut). By AI agents, Wed Nov 11 2026. No macro, syntax, notation, axiom, sorry.
-/
import Derived.Test.YtikndbinlpmgaaaChecked
import GoSem.Claim
import GoSem.ClaimJoined
import GoSem.ClaimMapViews
import Derived.JoinedTies
import Derived.KernelRfl
namespace Go.Proofs.Ytikndbinlpmgaaa
/- THE CELL 'sum', in the pinned program and in every row, IS THE sha256 OF THE DUMP (.gsa) THAT YtikndbinlpmgaaaProg.lean LOADS. Nothing in Lean hashes anything: it is a label: what it is worth is what the hold of that sum in a sandbox is worth. -/
noncomputable def Try.pinned : Pinned := { name := "ytikndbinlpmgaaa", sum := "fef824f2644c039090f9ae976de5117f1c62bc3e34bff7af483e53fb4bf1fffa", checked := Try.checked }
namespace Rows
def none {H : Type} : Left H := { results := [], args := [] }

/-- 'laws.FnGridRects': WHATEVER THE INPUT: true; the input reads as it did. -/
def fnGridRectsSpec : ChangeSpec := { name := "fnGridRects", fn := fun _ => fun
  | [d] => { results := [.lit (.bool true)], args := [d] }
  | _ => none }
def fnGridRectsRow : OpenClaim := { program := "ytikndbinlpmgaaa", sum := "fef824f2644c039090f9ae976de5117f1c62bc3e34bff7af483e53fb4bf1fffa", func := "loop.example/widgetroom/laws.FnGridRects", spec := "fnGridRects", unfollowed := true, recurses := true, apart := false }
def FnGridRectsSaid : Prop := fnGridRectsRow.holds Try.pinned (OpenSpec.ofChange fnGridRectsSpec)

/-- ITS FALSE NEIGHBOUR: 'it returns false'. Refute it at one input. -/
def fnGridRectsWrong : ChangeSpec := { name := "fnGridRects", fn := fun _ => fun
  | [d] => { results := [.lit (.bool false)], args := [d] }
  | _ => none }
def FnGridRectsWrongFalsely : Prop := fnGridRectsRow.holds Try.pinned (OpenSpec.ofChange fnGridRectsWrong)

/-- 'laws.FnGridRectsApart': WHATEVER THE INPUT: true; the input reads as it did. -/
def fnGridRectsApartSpec : ChangeSpec := { name := "fnGridRectsApart", fn := fun _ => fun
  | [d] => { results := [.lit (.bool true)], args := [d] }
  | _ => none }
def fnGridRectsApartRow : OpenClaim := { program := "ytikndbinlpmgaaa", sum := "fef824f2644c039090f9ae976de5117f1c62bc3e34bff7af483e53fb4bf1fffa", func := "loop.example/widgetroom/laws.FnGridRectsApart", spec := "fnGridRectsApart", unfollowed := true, recurses := true, apart := false }
def FnGridRectsApartSaid : Prop := fnGridRectsApartRow.holds Try.pinned (OpenSpec.ofChange fnGridRectsApartSpec)

/-- ITS FALSE NEIGHBOUR: 'it returns false'. Refute it at one input. -/
def fnGridRectsApartWrong : ChangeSpec := { name := "fnGridRectsApart", fn := fun _ => fun
  | [d] => { results := [.lit (.bool false)], args := [d] }
  | _ => none }
def FnGridRectsApartWrongFalsely : Prop := fnGridRectsApartRow.holds Try.pinned (OpenSpec.ofChange fnGridRectsApartWrong)

/-- 'laws.FnGridAt': WHATEVER THE INPUT: true; the input reads as it did. -/
def fnGridAtSpec : ChangeSpec := { name := "fnGridAt", fn := fun _ => fun
  | [d] => { results := [.lit (.bool true)], args := [d] }
  | _ => none }
def fnGridAtRow : OpenClaim := { program := "ytikndbinlpmgaaa", sum := "fef824f2644c039090f9ae976de5117f1c62bc3e34bff7af483e53fb4bf1fffa", func := "loop.example/widgetroom/laws.FnGridAt", spec := "fnGridAt", unfollowed := true, recurses := true, apart := false }
def FnGridAtSaid : Prop := fnGridAtRow.holds Try.pinned (OpenSpec.ofChange fnGridAtSpec)

/-- ITS FALSE NEIGHBOUR: 'it returns false'. Refute it at one input. -/
def fnGridAtWrong : ChangeSpec := { name := "fnGridAt", fn := fun _ => fun
  | [d] => { results := [.lit (.bool false)], args := [d] }
  | _ => none }
def FnGridAtWrongFalsely : Prop := fnGridAtRow.holds Try.pinned (OpenSpec.ofChange fnGridAtWrong)

/-- 'laws.FnExactGridAt': WHATEVER THE INPUT: true; the input reads as it did. -/
def fnExactGridAtSpec : ChangeSpec := { name := "fnExactGridAt", fn := fun _ => fun
  | [d1, d2, d3, d4, d5] => { results := [.lit (.bool true)], args := [d1, d2, d3, d4, d5] }
  | _ => none }
def fnExactGridAtRow : OpenClaim := { program := "ytikndbinlpmgaaa", sum := "fef824f2644c039090f9ae976de5117f1c62bc3e34bff7af483e53fb4bf1fffa", func := "loop.example/widgetroom/laws.FnExactGridAt", spec := "fnExactGridAt", unfollowed := true, recurses := true, apart := false }
def FnExactGridAtSaid : Prop := fnExactGridAtRow.holds Try.pinned (OpenSpec.ofChange fnExactGridAtSpec)

/-- ITS FALSE NEIGHBOUR: 'it returns false'. Refute it at one input. -/
def fnExactGridAtWrong : ChangeSpec := { name := "fnExactGridAt", fn := fun _ => fun
  | [d1, d2, d3, d4, d5] => { results := [.lit (.bool false)], args := [d1, d2, d3, d4, d5] }
  | _ => none }
def FnExactGridAtWrongFalsely : Prop := fnExactGridAtRow.holds Try.pinned (OpenSpec.ofChange fnExactGridAtWrong)

/-- 'laws.FnExactGridRects': WHATEVER THE INPUT: true; the input reads as it did. -/
def fnExactGridRectsSpec : ChangeSpec := { name := "fnExactGridRects", fn := fun _ => fun
  | [d1, d2, d3] => { results := [.lit (.bool true)], args := [d1, d2, d3] }
  | _ => none }
def fnExactGridRectsRow : OpenClaim := { program := "ytikndbinlpmgaaa", sum := "fef824f2644c039090f9ae976de5117f1c62bc3e34bff7af483e53fb4bf1fffa", func := "loop.example/widgetroom/laws.FnExactGridRects", spec := "fnExactGridRects", unfollowed := true, recurses := true, apart := false }
def FnExactGridRectsSaid : Prop := fnExactGridRectsRow.holds Try.pinned (OpenSpec.ofChange fnExactGridRectsSpec)

/-- ITS FALSE NEIGHBOUR: 'it returns false'. Refute it at one input. -/
def fnExactGridRectsWrong : ChangeSpec := { name := "fnExactGridRects", fn := fun _ => fun
  | [d1, d2, d3] => { results := [.lit (.bool false)], args := [d1, d2, d3] }
  | _ => none }
def FnExactGridRectsWrongFalsely : Prop := fnExactGridRectsRow.holds Try.pinned (OpenSpec.ofChange fnExactGridRectsWrong)

/-- 'laws.FnExactGridRequest': WHATEVER THE INPUT: true; the input reads as it did. -/
def fnExactGridRequestSpec : ChangeSpec := { name := "fnExactGridRequest", fn := fun _ => fun
  | [d] => { results := [.lit (.bool true)], args := [d] }
  | _ => none }
def fnExactGridRequestRow : OpenClaim := { program := "ytikndbinlpmgaaa", sum := "fef824f2644c039090f9ae976de5117f1c62bc3e34bff7af483e53fb4bf1fffa", func := "loop.example/widgetroom/laws.FnExactGridRequest", spec := "fnExactGridRequest", unfollowed := true, recurses := true, apart := false }
def FnExactGridRequestSaid : Prop := fnExactGridRequestRow.holds Try.pinned (OpenSpec.ofChange fnExactGridRequestSpec)

/-- ITS FALSE NEIGHBOUR: 'it returns false'. Refute it at one input. -/
def fnExactGridRequestWrong : ChangeSpec := { name := "fnExactGridRequest", fn := fun _ => fun
  | [d] => { results := [.lit (.bool false)], args := [d] }
  | _ => none }
def FnExactGridRequestWrongFalsely : Prop := fnExactGridRequestRow.holds Try.pinned (OpenSpec.ofChange fnExactGridRequestWrong)

/- THE SECOND FORM. 'bulk': how many values and letters a reading holds, each counted each time it is reached (what is shared counts as often as it is met; a slice's spare places count too). A statement '..UptoSaid' is the law's where the arguments, and the package variables that the reading takes, are together of bulk at most 1048576: NARROWER than '..Said'. Prove '..Said' where nothing that the law and all that it calls make is longer than what came in: it says more and counts as full. Else prove '..UptoSaid'. A law counts once. -/
mutual
def uptoBulk {H : Type} : DataW H → Nat
  | .lit (.string bytes) => bytes.length + 1
  | .lit _ => 1
  | .nil => 1
  | .ptr d => uptoBulk d + 1
  | .slice elems spare => uptoBulkAll elems + uptoBulkAll spare + 1
  | .agg parts => uptoBulkAll parts + 1
  | .iface _ d => uptoBulk d + 1
  | .map entries => uptoBulkEntries entries + 1
  | .held _ => 1
def uptoBulkAll {H : Type} : List (DataW H) → Nat
  | [] => 0
  | d :: r => uptoBulk d + uptoBulkAll r
def uptoBulkEntries {H : Type} : List (Lit × DataW H) → Nat
  | [] => 0
  | x :: r => uptoBulkEntry x + uptoBulkEntries r
def uptoBulkEntry {H : Type} : Lit × DataW H → Nat
  | (.string bytes, d) => bytes.length + uptoBulk d + 1
  | (_, d) => uptoBulk d + 1
 end
def uptoSmall : (H : Type) → List (DataW H) → Bool := fun _ ds => decide (uptoBulkAll ds ≤ 1048576)
def OpenSpec.upto (s : _root_.Go.ChangeSpec) : _root_.Go.OpenSpec := { _root_.Go.OpenSpec.ofChange s with cond := some uptoSmall }

/-- 'laws.FnGridRects', WHERE WHAT IT READS IS OF BULK AT MOST 1048576: true; the input reads as it did. -/
def fnGridRectsUptoRow : OpenClaim := { program := "ytikndbinlpmgaaa", sum := "fef824f2644c039090f9ae976de5117f1c62bc3e34bff7af483e53fb4bf1fffa", func := "loop.example/widgetroom/laws.FnGridRects", spec := "fnGridRects", unfollowed := true, recurses := true, apart := false, narrowed := true }
def FnGridRectsUptoSaid : Prop := fnGridRectsUptoRow.holds Try.pinned (OpenSpec.upto fnGridRectsSpec)

/-- 'laws.FnGridRectsApart', WHERE WHAT IT READS IS OF BULK AT MOST 1048576: true; the input reads as it did. -/
def fnGridRectsApartUptoRow : OpenClaim := { program := "ytikndbinlpmgaaa", sum := "fef824f2644c039090f9ae976de5117f1c62bc3e34bff7af483e53fb4bf1fffa", func := "loop.example/widgetroom/laws.FnGridRectsApart", spec := "fnGridRectsApart", unfollowed := true, recurses := true, apart := false, narrowed := true }
def FnGridRectsApartUptoSaid : Prop := fnGridRectsApartUptoRow.holds Try.pinned (OpenSpec.upto fnGridRectsApartSpec)

/-- 'laws.FnGridAt', WHERE WHAT IT READS IS OF BULK AT MOST 1048576: true; the input reads as it did. -/
def fnGridAtUptoRow : OpenClaim := { program := "ytikndbinlpmgaaa", sum := "fef824f2644c039090f9ae976de5117f1c62bc3e34bff7af483e53fb4bf1fffa", func := "loop.example/widgetroom/laws.FnGridAt", spec := "fnGridAt", unfollowed := true, recurses := true, apart := false, narrowed := true }
def FnGridAtUptoSaid : Prop := fnGridAtUptoRow.holds Try.pinned (OpenSpec.upto fnGridAtSpec)

/-- 'laws.FnExactGridAt', WHERE WHAT IT READS IS OF BULK AT MOST 1048576: true; the input reads as it did. -/
def fnExactGridAtUptoRow : OpenClaim := { program := "ytikndbinlpmgaaa", sum := "fef824f2644c039090f9ae976de5117f1c62bc3e34bff7af483e53fb4bf1fffa", func := "loop.example/widgetroom/laws.FnExactGridAt", spec := "fnExactGridAt", unfollowed := true, recurses := true, apart := false, narrowed := true }
def FnExactGridAtUptoSaid : Prop := fnExactGridAtUptoRow.holds Try.pinned (OpenSpec.upto fnExactGridAtSpec)

/-- 'laws.FnExactGridRects', WHERE WHAT IT READS IS OF BULK AT MOST 1048576: true; the input reads as it did. -/
def fnExactGridRectsUptoRow : OpenClaim := { program := "ytikndbinlpmgaaa", sum := "fef824f2644c039090f9ae976de5117f1c62bc3e34bff7af483e53fb4bf1fffa", func := "loop.example/widgetroom/laws.FnExactGridRects", spec := "fnExactGridRects", unfollowed := true, recurses := true, apart := false, narrowed := true }
def FnExactGridRectsUptoSaid : Prop := fnExactGridRectsUptoRow.holds Try.pinned (OpenSpec.upto fnExactGridRectsSpec)

/-- 'laws.FnExactGridRequest', WHERE WHAT IT READS IS OF BULK AT MOST 1048576: true; the input reads as it did. -/
def fnExactGridRequestUptoRow : OpenClaim := { program := "ytikndbinlpmgaaa", sum := "fef824f2644c039090f9ae976de5117f1c62bc3e34bff7af483e53fb4bf1fffa", func := "loop.example/widgetroom/laws.FnExactGridRequest", spec := "fnExactGridRequest", unfollowed := true, recurses := true, apart := false, narrowed := true }
def FnExactGridRequestUptoSaid : Prop := fnExactGridRequestUptoRow.holds Try.pinned (OpenSpec.upto fnExactGridRequestSpec)

end Rows
end Go.Proofs.Ytikndbinlpmgaaa
