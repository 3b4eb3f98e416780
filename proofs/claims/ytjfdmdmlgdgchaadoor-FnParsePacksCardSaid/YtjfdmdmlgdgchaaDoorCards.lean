/-
  DERIVED. GIVEN WITH THE SEED: THE CARDS: each row of YtjfdmdmlgdgchaaDoorRows.lean that lists a variable, with what it lists TIED to the program's text (the seventh form; the later family's looks); each row that meets fmt, with fmt's text TOLD by the authors' own Lean function (tested against real Go, not proved from fmt's source: count such statements apart). THE CARD IS WHAT COUNTS. Prove the row's statement (the work); the ties are given (YtjfdmdmlgdgchaaDoorTie.lean); close each card by the builder's one call (the guide's Derived/Test/ToyasCard.lean, 'card_holds'). Laid BY PROGRAM, IN A SANDBOX (cutbox-door.mjs). By AI agents, Wed Nov 11 2026. No macro, syntax, notation, axiom, sorry.
-/
import Derived.Test.YtjfdmdmlgdgchaaDoorRows
import GoSem.ClaimSeven
namespace Go.Proofs.YtjfdmdmlgdgchaaDoor
namespace Rows

/-- THE TIED CARD OF 'laws.FnExactParsePack'. -/
def fnExactParsePackCard : Claim7 := { stood := { row := fnExactParsePackRow, standIns := [], harness := (true, "253a2c7e9501fdfe114c59bbc44fcfb1d67287b88a3d019368ad9d4c1ef390ae"), looks := false }, kinds := [], alts := [], laidByText := true, laidKinds := [.data, .data, .data, .data, .pinned], laidTests := true, laidLooks := .later }
def FnExactParsePackCardSaid : Prop := Claim7.holds Tryd.pinned (.plain (OpenSpec.ofChange fnExactParsePackSpec)) fnExactParsePackCard

/-- THE TIED CARD OF 'laws.FnExactParsePacks'. -/
def fnExactParsePacksCard : Claim7 := { stood := { row := fnExactParsePacksRow, standIns := [], harness := (true, "253a2c7e9501fdfe114c59bbc44fcfb1d67287b88a3d019368ad9d4c1ef390ae"), looks := false }, kinds := [], alts := [], laidByText := true, laidKinds := [.data, .data, .data, .data, .pinned], laidTests := true, laidLooks := .later }
def FnExactParsePacksCardSaid : Prop := Claim7.holds Tryd.pinned (.plain (OpenSpec.ofChange fnExactParsePacksSpec)) fnExactParsePacksCard

/-- THE TIED CARD OF 'laws.FnPackText'. -/
def fnPackTextCard : Claim7 := { stood := { row := fnPackTextRow, standIns := [], harness := (true, "253a2c7e9501fdfe114c59bbc44fcfb1d67287b88a3d019368ad9d4c1ef390ae"), looks := false }, kinds := [], alts := [], laidByText := true, laidKinds := [.data, .data, .data, .data, .pinned], laidTests := true, laidLooks := .later }
def FnPackTextCardSaid : Prop := Claim7.holds Tryd.pinned (.plain (OpenSpec.ofChange fnPackTextSpec)) fnPackTextCard

/-- THE TIED CARD OF 'laws.FnParsePack'. -/
def fnParsePackCard : Claim7 := { stood := { row := fnParsePackRow, standIns := [], harness := (true, "253a2c7e9501fdfe114c59bbc44fcfb1d67287b88a3d019368ad9d4c1ef390ae"), looks := false }, kinds := [], alts := [], laidByText := true, laidKinds := [.data, .data, .data, .data, .pinned], laidTests := true, laidLooks := .later }
def FnParsePackCardSaid : Prop := Claim7.holds Tryd.pinned (.plain (OpenSpec.ofChange fnParsePackSpec)) fnParsePackCard

/-- THE TIED CARD OF 'laws.FnParsePacks'. -/
def fnParsePacksCard : Claim7 := { stood := { row := fnParsePacksRow, standIns := [], harness := (true, "253a2c7e9501fdfe114c59bbc44fcfb1d67287b88a3d019368ad9d4c1ef390ae"), looks := false }, kinds := [], alts := [], laidByText := true, laidKinds := [.data, .data, .data, .data, .pinned], laidTests := true, laidLooks := .later }
def FnParsePacksCardSaid : Prop := Claim7.holds Tryd.pinned (.plain (OpenSpec.ofChange fnParsePacksSpec)) fnParsePacksCard

/-- THE SECOND FORM's CARD OF 'laws.FnExactParsePack'. -/
def fnExactParsePackUptoCard : Claim7 := { stood := { row := fnExactParsePackUptoRow, standIns := [], harness := (true, "253a2c7e9501fdfe114c59bbc44fcfb1d67287b88a3d019368ad9d4c1ef390ae"), looks := false }, kinds := [], alts := [], laidByText := true, laidKinds := [.data, .data, .data, .data, .pinned], laidTests := true, laidLooks := .later }
def FnExactParsePackUptoCardSaid : Prop := Claim7.holds Tryd.pinned (.plain (OpenSpec.upto fnExactParsePackSpec)) fnExactParsePackUptoCard

/-- THE SECOND FORM's CARD OF 'laws.FnExactParsePacks'. -/
def fnExactParsePacksUptoCard : Claim7 := { stood := { row := fnExactParsePacksUptoRow, standIns := [], harness := (true, "253a2c7e9501fdfe114c59bbc44fcfb1d67287b88a3d019368ad9d4c1ef390ae"), looks := false }, kinds := [], alts := [], laidByText := true, laidKinds := [.data, .data, .data, .data, .pinned], laidTests := true, laidLooks := .later }
def FnExactParsePacksUptoCardSaid : Prop := Claim7.holds Tryd.pinned (.plain (OpenSpec.upto fnExactParsePacksSpec)) fnExactParsePacksUptoCard

/-- THE SECOND FORM's CARD OF 'laws.FnPackText'. -/
def fnPackTextUptoCard : Claim7 := { stood := { row := fnPackTextUptoRow, standIns := [], harness := (true, "253a2c7e9501fdfe114c59bbc44fcfb1d67287b88a3d019368ad9d4c1ef390ae"), looks := false }, kinds := [], alts := [], laidByText := true, laidKinds := [.data, .data, .data, .data, .pinned], laidTests := true, laidLooks := .later }
def FnPackTextUptoCardSaid : Prop := Claim7.holds Tryd.pinned (.plain (OpenSpec.upto fnPackTextSpec)) fnPackTextUptoCard

/-- THE SECOND FORM's CARD OF 'laws.FnParsePack'. -/
def fnParsePackUptoCard : Claim7 := { stood := { row := fnParsePackUptoRow, standIns := [], harness := (true, "253a2c7e9501fdfe114c59bbc44fcfb1d67287b88a3d019368ad9d4c1ef390ae"), looks := false }, kinds := [], alts := [], laidByText := true, laidKinds := [.data, .data, .data, .data, .pinned], laidTests := true, laidLooks := .later }
def FnParsePackUptoCardSaid : Prop := Claim7.holds Tryd.pinned (.plain (OpenSpec.upto fnParsePackSpec)) fnParsePackUptoCard

/-- THE SECOND FORM's CARD OF 'laws.FnParsePacks'. -/
def fnParsePacksUptoCard : Claim7 := { stood := { row := fnParsePacksUptoRow, standIns := [], harness := (true, "253a2c7e9501fdfe114c59bbc44fcfb1d67287b88a3d019368ad9d4c1ef390ae"), looks := false }, kinds := [], alts := [], laidByText := true, laidKinds := [.data, .data, .data, .data, .pinned], laidTests := true, laidLooks := .later }
def FnParsePacksUptoCardSaid : Prop := Claim7.holds Tryd.pinned (.plain (OpenSpec.upto fnParsePacksSpec)) fnParsePacksUptoCard
end Rows
end Go.Proofs.YtjfdmdmlgdgchaaDoor
