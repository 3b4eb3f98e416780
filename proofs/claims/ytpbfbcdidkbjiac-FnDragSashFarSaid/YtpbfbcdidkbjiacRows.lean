/-
  No cell of these rows narrows 'for every input' (looked for: loops, veiled, ifaces, maps, wideKeys, modest, calm, conditions, laid).
  DERIVED. THE GIVEN ROWS OF THIS SEAT. 5 by the template 'for every input the law returns true; each argument reads behind the call as it read before'; 0 by the template 'total and deterministic' (their statements: YtpbfbcdidkbjiacTotals.lean).
  GIVEN WITH THE SEED: the statements are not yours to turn. If you find one false, say at which input.
  Laid BY PROGRAM, IN A SANDBOX (cutbox-rows.mjs): the forced cells as the released guide's own fill.sh prints them over the translation 0f685f0f1e2c346a… (all of the seat's roots in one cut). By AI agents, Wed Nov 11 2026. No macro, syntax, notation, axiom, sorry.
-/
import Derived.Test.YtpbfbcdidkbjiacChecked
import GoSem.Claim
import GoSem.ClaimJoined
import GoSem.ClaimMapViews
import Derived.JoinedTies
import Derived.KernelRfl
namespace Go.Proofs.Ytpbfbcdidkbjiac
/- THE CELL 'sum', in the pinned program and in every row, IS THE sha256 OF THE DUMP (.gsa) THAT YtpbfbcdidkbjiacProg.lean LOADS. Nothing in Lean hashes anything: it is a label: what it is worth is what the hold of that sum in a sandbox is worth. -/
noncomputable def Try.pinned : Pinned := { name := "ytpbfbcdidkbjiac", sum := "0f685f0f1e2c346aa031e41ac9c0608e8a74c7532e697da2065eaaa5761774f9", checked := Try.checked }
namespace Rows
def none {H : Type} : Left H := { results := [], args := [] }

/-- 'laws.FnPaneAt': WHATEVER THE INPUT: true; the input reads as it did. -/
def fnPaneAtSpec : ChangeSpec := { name := "fnPaneAt", fn := fun _ => fun
  | [d] => { results := [.lit (.bool true)], args := [d] }
  | _ => none }
def fnPaneAtRow : OpenClaim := { program := "ytpbfbcdidkbjiac", sum := "0f685f0f1e2c346aa031e41ac9c0608e8a74c7532e697da2065eaaa5761774f9", func := "loop.example/widgetroom/laws.FnPaneAt", spec := "fnPaneAt", apart := false }
def FnPaneAtSaid : Prop := fnPaneAtRow.holds Try.pinned (OpenSpec.ofChange fnPaneAtSpec)

/-- ITS FALSE NEIGHBOUR: 'it returns false'. Refute it at one input. -/
def fnPaneAtWrong : ChangeSpec := { name := "fnPaneAt", fn := fun _ => fun
  | [d] => { results := [.lit (.bool false)], args := [d] }
  | _ => none }
def FnPaneAtWrongFalsely : Prop := fnPaneAtRow.holds Try.pinned (OpenSpec.ofChange fnPaneAtWrong)

/-- 'laws.FnDragSash': WHATEVER THE INPUT: true; the input reads as it did. -/
def fnDragSashSpec : ChangeSpec := { name := "fnDragSash", fn := fun _ => fun
  | [d] => { results := [.lit (.bool true)], args := [d] }
  | _ => none }
def fnDragSashRow : OpenClaim := { program := "ytpbfbcdidkbjiac", sum := "0f685f0f1e2c346aa031e41ac9c0608e8a74c7532e697da2065eaaa5761774f9", func := "loop.example/widgetroom/laws.FnDragSash", spec := "fnDragSash", apart := false }
def FnDragSashSaid : Prop := fnDragSashRow.holds Try.pinned (OpenSpec.ofChange fnDragSashSpec)

/-- ITS FALSE NEIGHBOUR: 'it returns false'. Refute it at one input. -/
def fnDragSashWrong : ChangeSpec := { name := "fnDragSash", fn := fun _ => fun
  | [d] => { results := [.lit (.bool false)], args := [d] }
  | _ => none }
def FnDragSashWrongFalsely : Prop := fnDragSashRow.holds Try.pinned (OpenSpec.ofChange fnDragSashWrong)

/-- 'laws.FnDragSashFar': WHATEVER THE INPUT: true; the input reads as it did. -/
def fnDragSashFarSpec : ChangeSpec := { name := "fnDragSashFar", fn := fun _ => fun
  | [d] => { results := [.lit (.bool true)], args := [d] }
  | _ => none }
def fnDragSashFarRow : OpenClaim := { program := "ytpbfbcdidkbjiac", sum := "0f685f0f1e2c346aa031e41ac9c0608e8a74c7532e697da2065eaaa5761774f9", func := "loop.example/widgetroom/laws.FnDragSashFar", spec := "fnDragSashFar", apart := false }
def FnDragSashFarSaid : Prop := fnDragSashFarRow.holds Try.pinned (OpenSpec.ofChange fnDragSashFarSpec)

/-- ITS FALSE NEIGHBOUR: 'it returns false'. Refute it at one input. -/
def fnDragSashFarWrong : ChangeSpec := { name := "fnDragSashFar", fn := fun _ => fun
  | [d] => { results := [.lit (.bool false)], args := [d] }
  | _ => none }
def FnDragSashFarWrongFalsely : Prop := fnDragSashFarRow.holds Try.pinned (OpenSpec.ofChange fnDragSashFarWrong)

/-- 'laws.FnValidView': WHATEVER THE INPUT: true; the input reads as it did. -/
def fnValidViewSpec : ChangeSpec := { name := "fnValidView", fn := fun _ => fun
  | [d] => { results := [.lit (.bool true)], args := [d] }
  | _ => none }
def fnValidViewRow : OpenClaim := { program := "ytpbfbcdidkbjiac", sum := "0f685f0f1e2c346aa031e41ac9c0608e8a74c7532e697da2065eaaa5761774f9", func := "loop.example/widgetroom/laws.FnValidView", spec := "fnValidView", apart := false }
def FnValidViewSaid : Prop := fnValidViewRow.holds Try.pinned (OpenSpec.ofChange fnValidViewSpec)

/-- ITS FALSE NEIGHBOUR: 'it returns false'. Refute it at one input. -/
def fnValidViewWrong : ChangeSpec := { name := "fnValidView", fn := fun _ => fun
  | [d] => { results := [.lit (.bool false)], args := [d] }
  | _ => none }
def FnValidViewWrongFalsely : Prop := fnValidViewRow.holds Try.pinned (OpenSpec.ofChange fnValidViewWrong)

/-- 'laws.FnScrollBy': WHATEVER THE INPUT: true; the input reads as it did. -/
def fnScrollBySpec : ChangeSpec := { name := "fnScrollBy", fn := fun _ => fun
  | [d] => { results := [.lit (.bool true)], args := [d] }
  | _ => none }
def fnScrollByRow : OpenClaim := { program := "ytpbfbcdidkbjiac", sum := "0f685f0f1e2c346aa031e41ac9c0608e8a74c7532e697da2065eaaa5761774f9", func := "loop.example/widgetroom/laws.FnScrollBy", spec := "fnScrollBy", apart := false }
def FnScrollBySaid : Prop := fnScrollByRow.holds Try.pinned (OpenSpec.ofChange fnScrollBySpec)

/-- ITS FALSE NEIGHBOUR: 'it returns false'. Refute it at one input. -/
def fnScrollByWrong : ChangeSpec := { name := "fnScrollBy", fn := fun _ => fun
  | [d] => { results := [.lit (.bool false)], args := [d] }
  | _ => none }
def FnScrollByWrongFalsely : Prop := fnScrollByRow.holds Try.pinned (OpenSpec.ofChange fnScrollByWrong)

/- THE SECOND FORM. 'bulk': how many values and letters a reading holds, each counted each time it is reached (what is shared counts as often as it is met; a slice's spare places count too). A statement '..UptoSaid' is the law's where the arguments, and the package variables that the reading takes, are together of bulk at most 1048576: NARROWER than '..Said'. Prove '..Said' where nothing that the law and all that it calls make is longer than what came in: it says more and counts as full. Else prove '..UptoSaid'. A law counts once. -/
mutual
def uptoBulk {H : Type} : DataW H → Nat
  | .lit (.string bytes) => bytes.length + 1
  | .lit _ => 1
  | .nil => 1
  | .ptr d => uptoBulk d + 1
  | .slice elems spare => uptoBulkAll elems + uptoBulkAll spare + 1
  | .agg parts => uptoBulkAll parts + 1
  | .iface _ d => uptoBulk d + 1
  | .map entries => uptoBulkEntries entries + 1
  | .held _ => 1
def uptoBulkAll {H : Type} : List (DataW H) → Nat
  | [] => 0
  | d :: r => uptoBulk d + uptoBulkAll r
def uptoBulkEntries {H : Type} : List (Lit × DataW H) → Nat
  | [] => 0
  | x :: r => uptoBulkEntry x + uptoBulkEntries r
def uptoBulkEntry {H : Type} : Lit × DataW H → Nat
  | (.string bytes, d) => bytes.length + uptoBulk d + 1
  | (_, d) => uptoBulk d + 1
 end
def uptoSmall : (H : Type) → List (DataW H) → Bool := fun _ ds => decide (uptoBulkAll ds ≤ 1048576)
def OpenSpec.upto (s : _root_.Go.ChangeSpec) : _root_.Go.OpenSpec := { _root_.Go.OpenSpec.ofChange s with cond := some uptoSmall }

/-- 'laws.FnPaneAt', WHERE WHAT IT READS IS OF BULK AT MOST 1048576: true; the input reads as it did. -/
def fnPaneAtUptoRow : OpenClaim := { program := "ytpbfbcdidkbjiac", sum := "0f685f0f1e2c346aa031e41ac9c0608e8a74c7532e697da2065eaaa5761774f9", func := "loop.example/widgetroom/laws.FnPaneAt", spec := "fnPaneAt", apart := false, narrowed := true }
def FnPaneAtUptoSaid : Prop := fnPaneAtUptoRow.holds Try.pinned (OpenSpec.upto fnPaneAtSpec)

/-- 'laws.FnDragSash', WHERE WHAT IT READS IS OF BULK AT MOST 1048576: true; the input reads as it did. -/
def fnDragSashUptoRow : OpenClaim := { program := "ytpbfbcdidkbjiac", sum := "0f685f0f1e2c346aa031e41ac9c0608e8a74c7532e697da2065eaaa5761774f9", func := "loop.example/widgetroom/laws.FnDragSash", spec := "fnDragSash", apart := false, narrowed := true }
def FnDragSashUptoSaid : Prop := fnDragSashUptoRow.holds Try.pinned (OpenSpec.upto fnDragSashSpec)

/-- 'laws.FnDragSashFar', WHERE WHAT IT READS IS OF BULK AT MOST 1048576: true; the input reads as it did. -/
def fnDragSashFarUptoRow : OpenClaim := { program := "ytpbfbcdidkbjiac", sum := "0f685f0f1e2c346aa031e41ac9c0608e8a74c7532e697da2065eaaa5761774f9", func := "loop.example/widgetroom/laws.FnDragSashFar", spec := "fnDragSashFar", apart := false, narrowed := true }
def FnDragSashFarUptoSaid : Prop := fnDragSashFarUptoRow.holds Try.pinned (OpenSpec.upto fnDragSashFarSpec)

/-- 'laws.FnValidView', WHERE WHAT IT READS IS OF BULK AT MOST 1048576: true; the input reads as it did. -/
def fnValidViewUptoRow : OpenClaim := { program := "ytpbfbcdidkbjiac", sum := "0f685f0f1e2c346aa031e41ac9c0608e8a74c7532e697da2065eaaa5761774f9", func := "loop.example/widgetroom/laws.FnValidView", spec := "fnValidView", apart := false, narrowed := true }
def FnValidViewUptoSaid : Prop := fnValidViewUptoRow.holds Try.pinned (OpenSpec.upto fnValidViewSpec)

/-- 'laws.FnScrollBy', WHERE WHAT IT READS IS OF BULK AT MOST 1048576: true; the input reads as it did. -/
def fnScrollByUptoRow : OpenClaim := { program := "ytpbfbcdidkbjiac", sum := "0f685f0f1e2c346aa031e41ac9c0608e8a74c7532e697da2065eaaa5761774f9", func := "loop.example/widgetroom/laws.FnScrollBy", spec := "fnScrollBy", apart := false, narrowed := true }
def FnScrollByUptoSaid : Prop := fnScrollByUptoRow.holds Try.pinned (OpenSpec.upto fnScrollBySpec)

end Rows
end Go.Proofs.Ytpbfbcdidkbjiac
