/-
  DERIVED. GIVEN WITH THE SEED: THE CARDS: each row of YteifllengcacbaaDoorRows.lean that lists a variable, with what it lists TIED to the program's text (the seventh form; the later family's looks); each row that meets fmt, with fmt's text TOLD by the authors' own Lean function (tested against real Go, not proved from fmt's source: count such statements apart). THE CARD IS WHAT COUNTS. Prove the row's statement (the work); the ties are given (YteifllengcacbaaDoorTie.lean); close each card by the builder's one call (the guide's Derived/Test/ToyasCard.lean, 'card_holds'). Laid BY PROGRAM, IN A SANDBOX (cutbox-door.mjs). By AI agents, Wed Nov 11 2026. No macro, syntax, notation, axiom, sorry.
-/
import Derived.Test.YteifllengcacbaaDoorRows
import GoSem.ClaimSeven
namespace Go.Proofs.YteifllengcacbaaDoor
namespace Rows

/-- THE TIED CARD OF 'laws.FnOpens'. -/
def fnOpensCard : Claim7 := { stood := { row := fnOpensRow, standIns := [], harness := (true, "6e409f8567a90cbadb9cb177e9d24eb4bf8a9e643d41676aabbeec681e6929fc"), looks := false }, kinds := [], alts := [], laidByText := true, laidKinds := [.data, .data, .data], laidTests := true, laidLooks := .later }
def FnOpensCardSaid : Prop := Claim7.holds Tryd.pinned (.plain (OpenSpec.ofChange fnOpensSpec)) fnOpensCard

/-- THE TIED CARD OF 'laws.FnDual'. -/
def fnDualCard : Claim7 := { stood := { row := fnDualRow, standIns := [], harness := (true, "6e409f8567a90cbadb9cb177e9d24eb4bf8a9e643d41676aabbeec681e6929fc"), looks := false }, kinds := [], alts := [], laidByText := true, laidKinds := [.data, .data, .data], laidTests := true, laidLooks := .later }
def FnDualCardSaid : Prop := Claim7.holds Tryd.pinned (.plain (OpenSpec.ofChange fnDualSpec)) fnDualCard

/-- THE TIED CARD OF 'laws.FnLattice'. -/
def fnLatticeCard : Claim7 := { stood := { row := fnLatticeRow, standIns := [], harness := (true, "6e409f8567a90cbadb9cb177e9d24eb4bf8a9e643d41676aabbeec681e6929fc"), looks := false }, kinds := [], alts := [], laidByText := true, laidKinds := [.data, .data, .data], laidTests := true, laidLooks := .later }
def FnLatticeCardSaid : Prop := Claim7.holds Tryd.pinned (.plain (OpenSpec.ofChange fnLatticeSpec)) fnLatticeCard

/-- THE TIED CARD OF 'laws.FnMinors'. -/
def fnMinorsCard : Claim7 := { stood := { row := fnMinorsRow, standIns := [], harness := (true, "6e409f8567a90cbadb9cb177e9d24eb4bf8a9e643d41676aabbeec681e6929fc"), looks := false }, kinds := [], alts := [], laidByText := true, laidKinds := [.data, .data, .data], laidTests := true, laidLooks := .later }
def FnMinorsCardSaid : Prop := Claim7.holds Tryd.pinned (.plain (OpenSpec.ofChange fnMinorsSpec)) fnMinorsCard

/-- THE TIED CARD OF 'laws.FnRename'. -/
def fnRenameCard : Claim7 := { stood := { row := fnRenameRow, standIns := [], harness := (true, "6e409f8567a90cbadb9cb177e9d24eb4bf8a9e643d41676aabbeec681e6929fc"), looks := false }, kinds := [], alts := [], laidByText := true, laidKinds := [.data, .data, .data], laidTests := true, laidLooks := .later }
def FnRenameCardSaid : Prop := Claim7.holds Tryd.pinned (.plain (OpenSpec.ofChange fnRenameSpec)) fnRenameCard

/-- THE TIED CARD OF 'laws.FnPut'. -/
def fnPutCard : Claim7 := { stood := { row := fnPutRow, standIns := [], harness := (true, "6e409f8567a90cbadb9cb177e9d24eb4bf8a9e643d41676aabbeec681e6929fc"), looks := false }, kinds := [], alts := [], laidByText := true, laidKinds := [.data, .data, .data], laidTests := true, laidLooks := .later }
def FnPutCardSaid : Prop := Claim7.holds Tryd.pinned (.plain (OpenSpec.ofChange fnPutSpec)) fnPutCard

/-- THE TIED CARD OF 'laws.FnWorth'. -/
def fnWorthCard : Claim7 := { stood := { row := fnWorthRow, standIns := [], harness := (true, "6e409f8567a90cbadb9cb177e9d24eb4bf8a9e643d41676aabbeec681e6929fc"), looks := false }, kinds := [], alts := [], laidByText := true, laidKinds := [.data, .data, .data], laidTests := true, laidLooks := .later }
def FnWorthCardSaid : Prop := Claim7.holds Tryd.pinned (.plain (OpenSpec.ofChange fnWorthSpec)) fnWorthCard

/-- THE TIED CARD OF 'laws.FnThreshold'. -/
def fnThresholdCard : Claim7 := { stood := { row := fnThresholdRow, standIns := [], harness := (true, "6e409f8567a90cbadb9cb177e9d24eb4bf8a9e643d41676aabbeec681e6929fc"), looks := false }, kinds := [], alts := [], laidByText := true, laidKinds := [.data, .data, .data], laidTests := true, laidLooks := .later }
def FnThresholdCardSaid : Prop := Claim7.holds Tryd.pinned (.plain (OpenSpec.ofChange fnThresholdSpec)) fnThresholdCard

/-- THE SECOND FORM's CARD OF 'laws.FnOpens'. -/
def fnOpensUptoCard : Claim7 := { stood := { row := fnOpensUptoRow, standIns := [], harness := (true, "6e409f8567a90cbadb9cb177e9d24eb4bf8a9e643d41676aabbeec681e6929fc"), looks := false }, kinds := [], alts := [], laidByText := true, laidKinds := [.data, .data, .data], laidTests := true, laidLooks := .later }
def FnOpensUptoCardSaid : Prop := Claim7.holds Tryd.pinned (.plain (OpenSpec.upto fnOpensSpec)) fnOpensUptoCard

/-- THE SECOND FORM's CARD OF 'laws.FnDual'. -/
def fnDualUptoCard : Claim7 := { stood := { row := fnDualUptoRow, standIns := [], harness := (true, "6e409f8567a90cbadb9cb177e9d24eb4bf8a9e643d41676aabbeec681e6929fc"), looks := false }, kinds := [], alts := [], laidByText := true, laidKinds := [.data, .data, .data], laidTests := true, laidLooks := .later }
def FnDualUptoCardSaid : Prop := Claim7.holds Tryd.pinned (.plain (OpenSpec.upto fnDualSpec)) fnDualUptoCard

/-- THE SECOND FORM's CARD OF 'laws.FnLattice'. -/
def fnLatticeUptoCard : Claim7 := { stood := { row := fnLatticeUptoRow, standIns := [], harness := (true, "6e409f8567a90cbadb9cb177e9d24eb4bf8a9e643d41676aabbeec681e6929fc"), looks := false }, kinds := [], alts := [], laidByText := true, laidKinds := [.data, .data, .data], laidTests := true, laidLooks := .later }
def FnLatticeUptoCardSaid : Prop := Claim7.holds Tryd.pinned (.plain (OpenSpec.upto fnLatticeSpec)) fnLatticeUptoCard

/-- THE SECOND FORM's CARD OF 'laws.FnMinors'. -/
def fnMinorsUptoCard : Claim7 := { stood := { row := fnMinorsUptoRow, standIns := [], harness := (true, "6e409f8567a90cbadb9cb177e9d24eb4bf8a9e643d41676aabbeec681e6929fc"), looks := false }, kinds := [], alts := [], laidByText := true, laidKinds := [.data, .data, .data], laidTests := true, laidLooks := .later }
def FnMinorsUptoCardSaid : Prop := Claim7.holds Tryd.pinned (.plain (OpenSpec.upto fnMinorsSpec)) fnMinorsUptoCard

/-- THE SECOND FORM's CARD OF 'laws.FnRename'. -/
def fnRenameUptoCard : Claim7 := { stood := { row := fnRenameUptoRow, standIns := [], harness := (true, "6e409f8567a90cbadb9cb177e9d24eb4bf8a9e643d41676aabbeec681e6929fc"), looks := false }, kinds := [], alts := [], laidByText := true, laidKinds := [.data, .data, .data], laidTests := true, laidLooks := .later }
def FnRenameUptoCardSaid : Prop := Claim7.holds Tryd.pinned (.plain (OpenSpec.upto fnRenameSpec)) fnRenameUptoCard

/-- THE SECOND FORM's CARD OF 'laws.FnPut'. -/
def fnPutUptoCard : Claim7 := { stood := { row := fnPutUptoRow, standIns := [], harness := (true, "6e409f8567a90cbadb9cb177e9d24eb4bf8a9e643d41676aabbeec681e6929fc"), looks := false }, kinds := [], alts := [], laidByText := true, laidKinds := [.data, .data, .data], laidTests := true, laidLooks := .later }
def FnPutUptoCardSaid : Prop := Claim7.holds Tryd.pinned (.plain (OpenSpec.upto fnPutSpec)) fnPutUptoCard

/-- THE SECOND FORM's CARD OF 'laws.FnWorth'. -/
def fnWorthUptoCard : Claim7 := { stood := { row := fnWorthUptoRow, standIns := [], harness := (true, "6e409f8567a90cbadb9cb177e9d24eb4bf8a9e643d41676aabbeec681e6929fc"), looks := false }, kinds := [], alts := [], laidByText := true, laidKinds := [.data, .data, .data], laidTests := true, laidLooks := .later }
def FnWorthUptoCardSaid : Prop := Claim7.holds Tryd.pinned (.plain (OpenSpec.upto fnWorthSpec)) fnWorthUptoCard

/-- THE SECOND FORM's CARD OF 'laws.FnThreshold'. -/
def fnThresholdUptoCard : Claim7 := { stood := { row := fnThresholdUptoRow, standIns := [], harness := (true, "6e409f8567a90cbadb9cb177e9d24eb4bf8a9e643d41676aabbeec681e6929fc"), looks := false }, kinds := [], alts := [], laidByText := true, laidKinds := [.data, .data, .data], laidTests := true, laidLooks := .later }
def FnThresholdUptoCardSaid : Prop := Claim7.holds Tryd.pinned (.plain (OpenSpec.upto fnThresholdSpec)) fnThresholdUptoCard
end Rows
end Go.Proofs.YteifllengcacbaaDoor
