/-
  DERIVED. GIVEN WITH THE SEED: THE CARDS: each row of YtjdjahckdgbkbaeDoorRows.lean that lists a variable, with what it lists TIED to the program's text (the seventh form; the later family's looks); each row that meets fmt, with fmt's text TOLD by the authors' own Lean function (tested against real Go, not proved from fmt's source: count such statements apart). THE CARD IS WHAT COUNTS. Prove the row's statement (the work); the ties are given (YtjdjahckdgbkbaeDoorTie.lean); close each card by the builder's one call (the guide's Derived/Test/ToyasCard.lean, 'card_holds'). Laid BY PROGRAM, IN A SANDBOX (cutbox-door.mjs). By AI agents, Wed Nov 11 2026. No macro, syntax, notation, axiom, sorry.
-/
import Derived.Test.YtjdjahckdgbkbaeDoorRows
import GoSem.ClaimSeven
namespace Go.Proofs.YtjdjahckdgbkbaeDoor
namespace Rows

/-- THE TIED CARD OF 'laws.FnExactRectText'. -/
def fnExactRectTextCard : Claim7 := { stood := { row := fnExactRectTextRow, standIns := [], harness := (true, "75e81dd97c9cfb63a1fb11cff37c3892da58c4b35b0c8750450bf23e2f61e971"), looks := true }, kinds := [], alts := [], laidByText := true, laidKinds := [.data, .data, .data], laidTests := true, laidLooks := .later }
def FnExactRectTextCardSaid : Prop := Claim7.holds Tryd.pinned (.plain (OpenSpec.ofChange fnExactRectTextSpec)) fnExactRectTextCard

/-- THE TIED CARD OF 'laws.FnRectText'. -/
def fnRectTextCard : Claim7 := { stood := { row := fnRectTextRow, standIns := [], harness := (true, "75e81dd97c9cfb63a1fb11cff37c3892da58c4b35b0c8750450bf23e2f61e971"), looks := true }, kinds := [], alts := [], laidByText := true, laidKinds := [.data, .data, .data], laidTests := true, laidLooks := .later }
def FnRectTextCardSaid : Prop := Claim7.holds Tryd.pinned (.plain (OpenSpec.ofChange fnRectTextSpec)) fnRectTextCard

/-- THE TIED CARD OF 'laws.FnResizePanes'. -/
def fnResizePanesCard : Claim7 := { stood := { row := fnResizePanesRow, standIns := [], harness := (true, "75e81dd97c9cfb63a1fb11cff37c3892da58c4b35b0c8750450bf23e2f61e971"), looks := true }, kinds := [], alts := [], laidByText := true, laidKinds := [.sentinel], laidTests := true, laidLooks := .later }
def FnResizePanesCardSaid : Prop := Claim7.holds Tryd.pinned (.plain (OpenSpec.ofChange fnResizePanesSpec)) fnResizePanesCard

/-- THE TIED CARD OF 'laws.FnExactResizePanes'. -/
def fnExactResizePanesCard : Claim7 := { stood := { row := fnExactResizePanesRow, standIns := [], harness := (true, "75e81dd97c9cfb63a1fb11cff37c3892da58c4b35b0c8750450bf23e2f61e971"), looks := true }, kinds := [], alts := [], laidByText := true, laidKinds := [.sentinel], laidTests := true, laidLooks := .later }
def FnExactResizePanesCardSaid : Prop := Claim7.holds Tryd.pinned (.plain (OpenSpec.ofChange fnExactResizePanesSpec)) fnExactResizePanesCard

/-- THE SECOND FORM's CARD OF 'laws.FnExactRectText'. -/
def fnExactRectTextUptoCard : Claim7 := { stood := { row := fnExactRectTextUptoRow, standIns := [], harness := (true, "75e81dd97c9cfb63a1fb11cff37c3892da58c4b35b0c8750450bf23e2f61e971"), looks := true }, kinds := [], alts := [], laidByText := true, laidKinds := [.data, .data, .data], laidTests := true, laidLooks := .later }
def FnExactRectTextUptoCardSaid : Prop := Claim7.holds Tryd.pinned (.plain (OpenSpec.upto fnExactRectTextSpec)) fnExactRectTextUptoCard

/-- THE SECOND FORM's CARD OF 'laws.FnRectText'. -/
def fnRectTextUptoCard : Claim7 := { stood := { row := fnRectTextUptoRow, standIns := [], harness := (true, "75e81dd97c9cfb63a1fb11cff37c3892da58c4b35b0c8750450bf23e2f61e971"), looks := true }, kinds := [], alts := [], laidByText := true, laidKinds := [.data, .data, .data], laidTests := true, laidLooks := .later }
def FnRectTextUptoCardSaid : Prop := Claim7.holds Tryd.pinned (.plain (OpenSpec.upto fnRectTextSpec)) fnRectTextUptoCard

/-- THE SECOND FORM's CARD OF 'laws.FnResizePanes'. -/
def fnResizePanesUptoCard : Claim7 := { stood := { row := fnResizePanesUptoRow, standIns := [], harness := (true, "75e81dd97c9cfb63a1fb11cff37c3892da58c4b35b0c8750450bf23e2f61e971"), looks := true }, kinds := [], alts := [], laidByText := true, laidKinds := [.sentinel], laidTests := true, laidLooks := .later }
def FnResizePanesUptoCardSaid : Prop := Claim7.holds Tryd.pinned (.plain (OpenSpec.upto fnResizePanesSpec)) fnResizePanesUptoCard

/-- THE SECOND FORM's CARD OF 'laws.FnExactResizePanes'. -/
def fnExactResizePanesUptoCard : Claim7 := { stood := { row := fnExactResizePanesUptoRow, standIns := [], harness := (true, "75e81dd97c9cfb63a1fb11cff37c3892da58c4b35b0c8750450bf23e2f61e971"), looks := true }, kinds := [], alts := [], laidByText := true, laidKinds := [.sentinel], laidTests := true, laidLooks := .later }
def FnExactResizePanesUptoCardSaid : Prop := Claim7.holds Tryd.pinned (.plain (OpenSpec.upto fnExactResizePanesSpec)) fnExactResizePanesUptoCard
end Rows
end Go.Proofs.YtjdjahckdgbkbaeDoor
