/-
  DERIVED. GIVEN WITH THE SEED: THE CARDS: each row of YtnalbonnjcphkaaDoorRows.lean that lists a variable, with what it lists TIED to the program's text (the seventh form; the later family's looks); each row that meets fmt, with fmt's text TOLD by the authors' own Lean function (tested against real Go, not proved from fmt's source: count such statements apart). THE CARD IS WHAT COUNTS. Prove the row's statement (the work); the ties are given (YtnalbonnjcphkaaDoorTie.lean); close each card by the builder's one call (the guide's Derived/Test/ToyasCard.lean, 'card_holds'). Laid BY PROGRAM, IN A SANDBOX (cutbox-door.mjs). By AI agents, Wed Nov 11 2026. No macro, syntax, notation, axiom, sorry.
-/
import Derived.Test.YtnalbonnjcphkaaDoorRows
import GoSem.ClaimSeven
namespace Go.Proofs.YtnalbonnjcphkaaDoor
namespace Rows

/-- THE TIED CARD OF 'laws.FnExactEitherFamily'. -/
def fnExactEitherFamilyCard : Claim7 := { stood := { row := fnExactEitherFamilyRow, standIns := [], harness := (true, "c5624cacd2eb9a535e74fc43c546593ef0846989ea0ec88f538f7f6300197e0b"), looks := true }, kinds := [], alts := [], laidByText := true, laidKinds := [.data, .data, .data], laidTests := true, laidLooks := .later }
def FnExactEitherFamilyCardSaid : Prop := Claim7.holds Tryd.pinned (.plain (OpenSpec.ofChange fnExactEitherFamilySpec)) fnExactEitherFamilyCard

/-- THE TIED CARD OF 'laws.FnExactBothFamilies'. -/
def fnExactBothFamiliesCard : Claim7 := { stood := { row := fnExactBothFamiliesRow, standIns := [], harness := (true, "c5624cacd2eb9a535e74fc43c546593ef0846989ea0ec88f538f7f6300197e0b"), looks := true }, kinds := [], alts := [], laidByText := true, laidKinds := [.data, .data, .data], laidTests := true, laidLooks := .later }
def FnExactBothFamiliesCardSaid : Prop := Claim7.holds Tryd.pinned (.plain (OpenSpec.ofChange fnExactBothFamiliesSpec)) fnExactBothFamiliesCard

/-- THE TIED CARD OF 'laws.FnExactRenameHolders'. -/
def fnExactRenameHoldersCard : Claim7 := { stood := { row := fnExactRenameHoldersRow, standIns := [], harness := (true, "c5624cacd2eb9a535e74fc43c546593ef0846989ea0ec88f538f7f6300197e0b"), looks := true }, kinds := [], alts := [], laidByText := true, laidKinds := [.data, .data, .data], laidTests := true, laidLooks := .later }
def FnExactRenameHoldersCardSaid : Prop := Claim7.holds Tryd.pinned (.plain (OpenSpec.ofChange fnExactRenameHoldersSpec)) fnExactRenameHoldersCard

/-- THE TIED CARD OF 'laws.FnExactPutFamily'. -/
def fnExactPutFamilyCard : Claim7 := { stood := { row := fnExactPutFamilyRow, standIns := [], harness := (true, "c5624cacd2eb9a535e74fc43c546593ef0846989ea0ec88f538f7f6300197e0b"), looks := true }, kinds := [], alts := [], laidByText := true, laidKinds := [.data, .data, .data], laidTests := true, laidLooks := .later }
def FnExactPutFamilyCardSaid : Prop := Claim7.holds Tryd.pinned (.plain (OpenSpec.ofChange fnExactPutFamilySpec)) fnExactPutFamilyCard

/-- THE TIED CARD OF 'laws.FnExactAlikeHolders'. -/
def fnExactAlikeHoldersCard : Claim7 := { stood := { row := fnExactAlikeHoldersRow, standIns := [], harness := (true, "c5624cacd2eb9a535e74fc43c546593ef0846989ea0ec88f538f7f6300197e0b"), looks := true }, kinds := [], alts := [], laidByText := true, laidKinds := [.data, .data, .data], laidTests := true, laidLooks := .later }
def FnExactAlikeHoldersCardSaid : Prop := Claim7.holds Tryd.pinned (.plain (OpenSpec.ofChange fnExactAlikeHoldersSpec)) fnExactAlikeHoldersCard

/-- THE TIED CARD OF 'laws.FnExactReadFamily'. -/
def fnExactReadFamilyCard : Claim7 := { stood := { row := fnExactReadFamilyRow, standIns := [], harness := (true, "c5624cacd2eb9a535e74fc43c546593ef0846989ea0ec88f538f7f6300197e0b"), looks := true }, kinds := [], alts := [], laidByText := true, laidKinds := [.data, .data, .data, .sentinel, .sentinel], laidTests := true, laidLooks := .later }
def FnExactReadFamilyCardSaid : Prop := Claim7.holds Tryd.pinned (.plain (OpenSpec.ofChange fnExactReadFamilySpec)) fnExactReadFamilyCard

/-- THE SECOND FORM's CARD OF 'laws.FnExactEitherFamily'. -/
def fnExactEitherFamilyUptoCard : Claim7 := { stood := { row := fnExactEitherFamilyUptoRow, standIns := [], harness := (true, "c5624cacd2eb9a535e74fc43c546593ef0846989ea0ec88f538f7f6300197e0b"), looks := true }, kinds := [], alts := [], laidByText := true, laidKinds := [.data, .data, .data], laidTests := true, laidLooks := .later }
def FnExactEitherFamilyUptoCardSaid : Prop := Claim7.holds Tryd.pinned (.plain (OpenSpec.upto fnExactEitherFamilySpec)) fnExactEitherFamilyUptoCard

/-- THE SECOND FORM's CARD OF 'laws.FnExactBothFamilies'. -/
def fnExactBothFamiliesUptoCard : Claim7 := { stood := { row := fnExactBothFamiliesUptoRow, standIns := [], harness := (true, "c5624cacd2eb9a535e74fc43c546593ef0846989ea0ec88f538f7f6300197e0b"), looks := true }, kinds := [], alts := [], laidByText := true, laidKinds := [.data, .data, .data], laidTests := true, laidLooks := .later }
def FnExactBothFamiliesUptoCardSaid : Prop := Claim7.holds Tryd.pinned (.plain (OpenSpec.upto fnExactBothFamiliesSpec)) fnExactBothFamiliesUptoCard

/-- THE SECOND FORM's CARD OF 'laws.FnExactRenameHolders'. -/
def fnExactRenameHoldersUptoCard : Claim7 := { stood := { row := fnExactRenameHoldersUptoRow, standIns := [], harness := (true, "c5624cacd2eb9a535e74fc43c546593ef0846989ea0ec88f538f7f6300197e0b"), looks := true }, kinds := [], alts := [], laidByText := true, laidKinds := [.data, .data, .data], laidTests := true, laidLooks := .later }
def FnExactRenameHoldersUptoCardSaid : Prop := Claim7.holds Tryd.pinned (.plain (OpenSpec.upto fnExactRenameHoldersSpec)) fnExactRenameHoldersUptoCard

/-- THE SECOND FORM's CARD OF 'laws.FnExactPutFamily'. -/
def fnExactPutFamilyUptoCard : Claim7 := { stood := { row := fnExactPutFamilyUptoRow, standIns := [], harness := (true, "c5624cacd2eb9a535e74fc43c546593ef0846989ea0ec88f538f7f6300197e0b"), looks := true }, kinds := [], alts := [], laidByText := true, laidKinds := [.data, .data, .data], laidTests := true, laidLooks := .later }
def FnExactPutFamilyUptoCardSaid : Prop := Claim7.holds Tryd.pinned (.plain (OpenSpec.upto fnExactPutFamilySpec)) fnExactPutFamilyUptoCard

/-- THE SECOND FORM's CARD OF 'laws.FnExactAlikeHolders'. -/
def fnExactAlikeHoldersUptoCard : Claim7 := { stood := { row := fnExactAlikeHoldersUptoRow, standIns := [], harness := (true, "c5624cacd2eb9a535e74fc43c546593ef0846989ea0ec88f538f7f6300197e0b"), looks := true }, kinds := [], alts := [], laidByText := true, laidKinds := [.data, .data, .data], laidTests := true, laidLooks := .later }
def FnExactAlikeHoldersUptoCardSaid : Prop := Claim7.holds Tryd.pinned (.plain (OpenSpec.upto fnExactAlikeHoldersSpec)) fnExactAlikeHoldersUptoCard

/-- THE SECOND FORM's CARD OF 'laws.FnExactReadFamily'. -/
def fnExactReadFamilyUptoCard : Claim7 := { stood := { row := fnExactReadFamilyUptoRow, standIns := [], harness := (true, "c5624cacd2eb9a535e74fc43c546593ef0846989ea0ec88f538f7f6300197e0b"), looks := true }, kinds := [], alts := [], laidByText := true, laidKinds := [.data, .data, .data, .sentinel, .sentinel], laidTests := true, laidLooks := .later }
def FnExactReadFamilyUptoCardSaid : Prop := Claim7.holds Tryd.pinned (.plain (OpenSpec.upto fnExactReadFamilySpec)) fnExactReadFamilyUptoCard
end Rows
end Go.Proofs.YtnalbonnjcphkaaDoor
