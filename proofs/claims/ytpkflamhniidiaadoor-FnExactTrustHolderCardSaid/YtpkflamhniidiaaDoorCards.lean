/-
  DERIVED. GIVEN WITH THE SEED: THE CARDS: each row of YtpkflamhniidiaaDoorRows.lean that lists a variable, with what it lists TIED to the program's text (the seventh form; the later family's looks); each row that meets fmt, with fmt's text TOLD by the authors' own Lean function (tested against real Go, not proved from fmt's source: count such statements apart). THE CARD IS WHAT COUNTS. Prove the row's statement (the work); the ties are given (YtpkflamhniidiaaDoorTie.lean); close each card by the builder's one call (the guide's Derived/Test/ToyasCard.lean, 'card_holds'). Laid BY PROGRAM, IN A SANDBOX (cutbox-door.mjs). By AI agents, Wed Nov 11 2026. No macro, syntax, notation, axiom, sorry.
-/
import Derived.Test.YtpkflamhniidiaaDoorRows
import GoSem.ClaimSeven
namespace Go.Proofs.YtpkflamhniidiaaDoor
namespace Rows

/-- THE TIED CARD OF 'laws.FnExactFamilyText'. -/
def fnExactFamilyTextCard : Claim7 := { stood := { row := fnExactFamilyTextRow, standIns := [], harness := (true, "5b23cf5111eb44403eb268a2186d962d74f198792e1b76a0e82b0b20f7b1d231"), looks := true }, kinds := [], alts := [], laidByText := true, laidKinds := [.data, .data, .data], laidTests := true, laidLooks := .later }
def FnExactFamilyTextCardSaid : Prop := Claim7.holds Tryd.pinned (.plain (OpenSpec.ofChange fnExactFamilyTextSpec)) fnExactFamilyTextCard

/-- THE TIED CARD OF 'laws.FnExactReadFamily'. -/
def fnExactReadFamilyCard : Claim7 := { stood := { row := fnExactReadFamilyRow, standIns := [], harness := (true, "5b23cf5111eb44403eb268a2186d962d74f198792e1b76a0e82b0b20f7b1d231"), looks := true }, kinds := [], alts := [], laidByText := true, laidKinds := [.data, .data, .data, .sentinel, .sentinel], laidTests := true, laidLooks := .later }
def FnExactReadFamilyCardSaid : Prop := Claim7.holds Tryd.pinned (.plain (OpenSpec.ofChange fnExactReadFamilySpec)) fnExactReadFamilyCard

/-- THE TIED CARD OF 'laws.FnExactMayOpen'. -/
def fnExactMayOpenCard : Claim7 := { stood := { row := fnExactMayOpenRow, standIns := [], harness := (true, "5b23cf5111eb44403eb268a2186d962d74f198792e1b76a0e82b0b20f7b1d231"), looks := true }, kinds := [], alts := [], laidByText := true, laidKinds := [.data, .data, .data], laidTests := true, laidLooks := .later }
def FnExactMayOpenCardSaid : Prop := Claim7.holds Tryd.pinned (.plain (OpenSpec.ofChange fnExactMayOpenSpec)) fnExactMayOpenCard

/-- THE TIED CARD OF 'laws.FnExactOpeningGroups'. -/
def fnExactOpeningGroupsCard : Claim7 := { stood := { row := fnExactOpeningGroupsRow, standIns := [], harness := (true, "5b23cf5111eb44403eb268a2186d962d74f198792e1b76a0e82b0b20f7b1d231"), looks := true }, kinds := [], alts := [], laidByText := true, laidKinds := [.data, .data, .data], laidTests := true, laidLooks := .later }
def FnExactOpeningGroupsCardSaid : Prop := Claim7.holds Tryd.pinned (.plain (OpenSpec.ofChange fnExactOpeningGroupsSpec)) fnExactOpeningGroupsCard

/-- THE TIED CARD OF 'laws.FnExactGreatestBlocked'. -/
def fnExactGreatestBlockedCard : Claim7 := { stood := { row := fnExactGreatestBlockedRow, standIns := [], harness := (true, "5b23cf5111eb44403eb268a2186d962d74f198792e1b76a0e82b0b20f7b1d231"), looks := true }, kinds := [], alts := [], laidByText := true, laidKinds := [.data, .data, .data], laidTests := true, laidLooks := .later }
def FnExactGreatestBlockedCardSaid : Prop := Claim7.holds Tryd.pinned (.plain (OpenSpec.ofChange fnExactGreatestBlockedSpec)) fnExactGreatestBlockedCard

/-- THE TIED CARD OF 'laws.FnExactDualFamily'. -/
def fnExactDualFamilyCard : Claim7 := { stood := { row := fnExactDualFamilyRow, standIns := [], harness := (true, "5b23cf5111eb44403eb268a2186d962d74f198792e1b76a0e82b0b20f7b1d231"), looks := true }, kinds := [], alts := [], laidByText := true, laidKinds := [.data, .data, .data], laidTests := true, laidLooks := .later }
def FnExactDualFamilyCardSaid : Prop := Claim7.holds Tryd.pinned (.plain (OpenSpec.ofChange fnExactDualFamilySpec)) fnExactDualFamilyCard

/-- THE TIED CARD OF 'laws.FnExactEitherFamily'. -/
def fnExactEitherFamilyCard : Claim7 := { stood := { row := fnExactEitherFamilyRow, standIns := [], harness := (true, "5b23cf5111eb44403eb268a2186d962d74f198792e1b76a0e82b0b20f7b1d231"), looks := true }, kinds := [], alts := [], laidByText := true, laidKinds := [.data, .data, .data], laidTests := true, laidLooks := .later }
def FnExactEitherFamilyCardSaid : Prop := Claim7.holds Tryd.pinned (.plain (OpenSpec.ofChange fnExactEitherFamilySpec)) fnExactEitherFamilyCard

/-- THE TIED CARD OF 'laws.FnExactBothFamilies'. -/
def fnExactBothFamiliesCard : Claim7 := { stood := { row := fnExactBothFamiliesRow, standIns := [], harness := (true, "5b23cf5111eb44403eb268a2186d962d74f198792e1b76a0e82b0b20f7b1d231"), looks := true }, kinds := [], alts := [], laidByText := true, laidKinds := [.data, .data, .data], laidTests := true, laidLooks := .later }
def FnExactBothFamiliesCardSaid : Prop := Claim7.holds Tryd.pinned (.plain (OpenSpec.ofChange fnExactBothFamiliesSpec)) fnExactBothFamiliesCard

/-- THE TIED CARD OF 'laws.FnExactWithoutHolder'. -/
def fnExactWithoutHolderCard : Claim7 := { stood := { row := fnExactWithoutHolderRow, standIns := [], harness := (true, "5b23cf5111eb44403eb268a2186d962d74f198792e1b76a0e82b0b20f7b1d231"), looks := true }, kinds := [], alts := [], laidByText := true, laidKinds := [.data, .data, .data], laidTests := true, laidLooks := .later }
def FnExactWithoutHolderCardSaid : Prop := Claim7.holds Tryd.pinned (.plain (OpenSpec.ofChange fnExactWithoutHolderSpec)) fnExactWithoutHolderCard

/-- THE TIED CARD OF 'laws.FnExactTrustHolder'. -/
def fnExactTrustHolderCard : Claim7 := { stood := { row := fnExactTrustHolderRow, standIns := [], harness := (true, "5b23cf5111eb44403eb268a2186d962d74f198792e1b76a0e82b0b20f7b1d231"), looks := true }, kinds := [], alts := [], laidByText := true, laidKinds := [.data, .data, .data], laidTests := true, laidLooks := .later }
def FnExactTrustHolderCardSaid : Prop := Claim7.holds Tryd.pinned (.plain (OpenSpec.ofChange fnExactTrustHolderSpec)) fnExactTrustHolderCard

/-- THE TIED CARD OF 'laws.FnExactRenameHolders'. -/
def fnExactRenameHoldersCard : Claim7 := { stood := { row := fnExactRenameHoldersRow, standIns := [], harness := (true, "5b23cf5111eb44403eb268a2186d962d74f198792e1b76a0e82b0b20f7b1d231"), looks := true }, kinds := [], alts := [], laidByText := true, laidKinds := [.data, .data, .data], laidTests := true, laidLooks := .later }
def FnExactRenameHoldersCardSaid : Prop := Claim7.holds Tryd.pinned (.plain (OpenSpec.ofChange fnExactRenameHoldersSpec)) fnExactRenameHoldersCard

/-- THE TIED CARD OF 'laws.FnExactPutFamily'. -/
def fnExactPutFamilyCard : Claim7 := { stood := { row := fnExactPutFamilyRow, standIns := [], harness := (true, "5b23cf5111eb44403eb268a2186d962d74f198792e1b76a0e82b0b20f7b1d231"), looks := true }, kinds := [], alts := [], laidByText := true, laidKinds := [.data, .data, .data], laidTests := true, laidLooks := .later }
def FnExactPutFamilyCardSaid : Prop := Claim7.holds Tryd.pinned (.plain (OpenSpec.ofChange fnExactPutFamilySpec)) fnExactPutFamilyCard

/-- THE TIED CARD OF 'laws.FnExactAlikeHolders'. -/
def fnExactAlikeHoldersCard : Claim7 := { stood := { row := fnExactAlikeHoldersRow, standIns := [], harness := (true, "5b23cf5111eb44403eb268a2186d962d74f198792e1b76a0e82b0b20f7b1d231"), looks := true }, kinds := [], alts := [], laidByText := true, laidKinds := [.data, .data, .data], laidTests := true, laidLooks := .later }
def FnExactAlikeHoldersCardSaid : Prop := Claim7.holds Tryd.pinned (.plain (OpenSpec.ofChange fnExactAlikeHoldersSpec)) fnExactAlikeHoldersCard

/-- THE TIED CARD OF 'laws.FnExactCountBySize'. -/
def fnExactCountBySizeCard : Claim7 := { stood := { row := fnExactCountBySizeRow, standIns := [], harness := (true, "5b23cf5111eb44403eb268a2186d962d74f198792e1b76a0e82b0b20f7b1d231"), looks := true }, kinds := [], alts := [], laidByText := true, laidKinds := [.data, .data, .data], laidTests := true, laidLooks := .later }
def FnExactCountBySizeCardSaid : Prop := Claim7.holds Tryd.pinned (.plain (OpenSpec.ofChange fnExactCountBySizeSpec)) fnExactCountBySizeCard

/-- THE TIED CARD OF 'laws.FnExactSwingsOf'. -/
def fnExactSwingsOfCard : Claim7 := { stood := { row := fnExactSwingsOfRow, standIns := [], harness := (true, "5b23cf5111eb44403eb268a2186d962d74f198792e1b76a0e82b0b20f7b1d231"), looks := true }, kinds := [], alts := [], laidByText := true, laidKinds := [.data, .data, .data], laidTests := true, laidLooks := .later }
def FnExactSwingsOfCardSaid : Prop := Claim7.holds Tryd.pinned (.plain (OpenSpec.ofChange fnExactSwingsOfSpec)) fnExactSwingsOfCard

/-- THE SECOND FORM's CARD OF 'laws.FnExactFamilyText'. -/
def fnExactFamilyTextUptoCard : Claim7 := { stood := { row := fnExactFamilyTextUptoRow, standIns := [], harness := (true, "5b23cf5111eb44403eb268a2186d962d74f198792e1b76a0e82b0b20f7b1d231"), looks := true }, kinds := [], alts := [], laidByText := true, laidKinds := [.data, .data, .data], laidTests := true, laidLooks := .later }
def FnExactFamilyTextUptoCardSaid : Prop := Claim7.holds Tryd.pinned (.plain (OpenSpec.upto fnExactFamilyTextSpec)) fnExactFamilyTextUptoCard

/-- THE SECOND FORM's CARD OF 'laws.FnExactReadFamily'. -/
def fnExactReadFamilyUptoCard : Claim7 := { stood := { row := fnExactReadFamilyUptoRow, standIns := [], harness := (true, "5b23cf5111eb44403eb268a2186d962d74f198792e1b76a0e82b0b20f7b1d231"), looks := true }, kinds := [], alts := [], laidByText := true, laidKinds := [.data, .data, .data, .sentinel, .sentinel], laidTests := true, laidLooks := .later }
def FnExactReadFamilyUptoCardSaid : Prop := Claim7.holds Tryd.pinned (.plain (OpenSpec.upto fnExactReadFamilySpec)) fnExactReadFamilyUptoCard

/-- THE SECOND FORM's CARD OF 'laws.FnExactMayOpen'. -/
def fnExactMayOpenUptoCard : Claim7 := { stood := { row := fnExactMayOpenUptoRow, standIns := [], harness := (true, "5b23cf5111eb44403eb268a2186d962d74f198792e1b76a0e82b0b20f7b1d231"), looks := true }, kinds := [], alts := [], laidByText := true, laidKinds := [.data, .data, .data], laidTests := true, laidLooks := .later }
def FnExactMayOpenUptoCardSaid : Prop := Claim7.holds Tryd.pinned (.plain (OpenSpec.upto fnExactMayOpenSpec)) fnExactMayOpenUptoCard

/-- THE SECOND FORM's CARD OF 'laws.FnExactOpeningGroups'. -/
def fnExactOpeningGroupsUptoCard : Claim7 := { stood := { row := fnExactOpeningGroupsUptoRow, standIns := [], harness := (true, "5b23cf5111eb44403eb268a2186d962d74f198792e1b76a0e82b0b20f7b1d231"), looks := true }, kinds := [], alts := [], laidByText := true, laidKinds := [.data, .data, .data], laidTests := true, laidLooks := .later }
def FnExactOpeningGroupsUptoCardSaid : Prop := Claim7.holds Tryd.pinned (.plain (OpenSpec.upto fnExactOpeningGroupsSpec)) fnExactOpeningGroupsUptoCard

/-- THE SECOND FORM's CARD OF 'laws.FnExactGreatestBlocked'. -/
def fnExactGreatestBlockedUptoCard : Claim7 := { stood := { row := fnExactGreatestBlockedUptoRow, standIns := [], harness := (true, "5b23cf5111eb44403eb268a2186d962d74f198792e1b76a0e82b0b20f7b1d231"), looks := true }, kinds := [], alts := [], laidByText := true, laidKinds := [.data, .data, .data], laidTests := true, laidLooks := .later }
def FnExactGreatestBlockedUptoCardSaid : Prop := Claim7.holds Tryd.pinned (.plain (OpenSpec.upto fnExactGreatestBlockedSpec)) fnExactGreatestBlockedUptoCard

/-- THE SECOND FORM's CARD OF 'laws.FnExactDualFamily'. -/
def fnExactDualFamilyUptoCard : Claim7 := { stood := { row := fnExactDualFamilyUptoRow, standIns := [], harness := (true, "5b23cf5111eb44403eb268a2186d962d74f198792e1b76a0e82b0b20f7b1d231"), looks := true }, kinds := [], alts := [], laidByText := true, laidKinds := [.data, .data, .data], laidTests := true, laidLooks := .later }
def FnExactDualFamilyUptoCardSaid : Prop := Claim7.holds Tryd.pinned (.plain (OpenSpec.upto fnExactDualFamilySpec)) fnExactDualFamilyUptoCard

/-- THE SECOND FORM's CARD OF 'laws.FnExactEitherFamily'. -/
def fnExactEitherFamilyUptoCard : Claim7 := { stood := { row := fnExactEitherFamilyUptoRow, standIns := [], harness := (true, "5b23cf5111eb44403eb268a2186d962d74f198792e1b76a0e82b0b20f7b1d231"), looks := true }, kinds := [], alts := [], laidByText := true, laidKinds := [.data, .data, .data], laidTests := true, laidLooks := .later }
def FnExactEitherFamilyUptoCardSaid : Prop := Claim7.holds Tryd.pinned (.plain (OpenSpec.upto fnExactEitherFamilySpec)) fnExactEitherFamilyUptoCard

/-- THE SECOND FORM's CARD OF 'laws.FnExactBothFamilies'. -/
def fnExactBothFamiliesUptoCard : Claim7 := { stood := { row := fnExactBothFamiliesUptoRow, standIns := [], harness := (true, "5b23cf5111eb44403eb268a2186d962d74f198792e1b76a0e82b0b20f7b1d231"), looks := true }, kinds := [], alts := [], laidByText := true, laidKinds := [.data, .data, .data], laidTests := true, laidLooks := .later }
def FnExactBothFamiliesUptoCardSaid : Prop := Claim7.holds Tryd.pinned (.plain (OpenSpec.upto fnExactBothFamiliesSpec)) fnExactBothFamiliesUptoCard

/-- THE SECOND FORM's CARD OF 'laws.FnExactWithoutHolder'. -/
def fnExactWithoutHolderUptoCard : Claim7 := { stood := { row := fnExactWithoutHolderUptoRow, standIns := [], harness := (true, "5b23cf5111eb44403eb268a2186d962d74f198792e1b76a0e82b0b20f7b1d231"), looks := true }, kinds := [], alts := [], laidByText := true, laidKinds := [.data, .data, .data], laidTests := true, laidLooks := .later }
def FnExactWithoutHolderUptoCardSaid : Prop := Claim7.holds Tryd.pinned (.plain (OpenSpec.upto fnExactWithoutHolderSpec)) fnExactWithoutHolderUptoCard

/-- THE SECOND FORM's CARD OF 'laws.FnExactTrustHolder'. -/
def fnExactTrustHolderUptoCard : Claim7 := { stood := { row := fnExactTrustHolderUptoRow, standIns := [], harness := (true, "5b23cf5111eb44403eb268a2186d962d74f198792e1b76a0e82b0b20f7b1d231"), looks := true }, kinds := [], alts := [], laidByText := true, laidKinds := [.data, .data, .data], laidTests := true, laidLooks := .later }
def FnExactTrustHolderUptoCardSaid : Prop := Claim7.holds Tryd.pinned (.plain (OpenSpec.upto fnExactTrustHolderSpec)) fnExactTrustHolderUptoCard

/-- THE SECOND FORM's CARD OF 'laws.FnExactRenameHolders'. -/
def fnExactRenameHoldersUptoCard : Claim7 := { stood := { row := fnExactRenameHoldersUptoRow, standIns := [], harness := (true, "5b23cf5111eb44403eb268a2186d962d74f198792e1b76a0e82b0b20f7b1d231"), looks := true }, kinds := [], alts := [], laidByText := true, laidKinds := [.data, .data, .data], laidTests := true, laidLooks := .later }
def FnExactRenameHoldersUptoCardSaid : Prop := Claim7.holds Tryd.pinned (.plain (OpenSpec.upto fnExactRenameHoldersSpec)) fnExactRenameHoldersUptoCard

/-- THE SECOND FORM's CARD OF 'laws.FnExactPutFamily'. -/
def fnExactPutFamilyUptoCard : Claim7 := { stood := { row := fnExactPutFamilyUptoRow, standIns := [], harness := (true, "5b23cf5111eb44403eb268a2186d962d74f198792e1b76a0e82b0b20f7b1d231"), looks := true }, kinds := [], alts := [], laidByText := true, laidKinds := [.data, .data, .data], laidTests := true, laidLooks := .later }
def FnExactPutFamilyUptoCardSaid : Prop := Claim7.holds Tryd.pinned (.plain (OpenSpec.upto fnExactPutFamilySpec)) fnExactPutFamilyUptoCard

/-- THE SECOND FORM's CARD OF 'laws.FnExactAlikeHolders'. -/
def fnExactAlikeHoldersUptoCard : Claim7 := { stood := { row := fnExactAlikeHoldersUptoRow, standIns := [], harness := (true, "5b23cf5111eb44403eb268a2186d962d74f198792e1b76a0e82b0b20f7b1d231"), looks := true }, kinds := [], alts := [], laidByText := true, laidKinds := [.data, .data, .data], laidTests := true, laidLooks := .later }
def FnExactAlikeHoldersUptoCardSaid : Prop := Claim7.holds Tryd.pinned (.plain (OpenSpec.upto fnExactAlikeHoldersSpec)) fnExactAlikeHoldersUptoCard

/-- THE SECOND FORM's CARD OF 'laws.FnExactCountBySize'. -/
def fnExactCountBySizeUptoCard : Claim7 := { stood := { row := fnExactCountBySizeUptoRow, standIns := [], harness := (true, "5b23cf5111eb44403eb268a2186d962d74f198792e1b76a0e82b0b20f7b1d231"), looks := true }, kinds := [], alts := [], laidByText := true, laidKinds := [.data, .data, .data], laidTests := true, laidLooks := .later }
def FnExactCountBySizeUptoCardSaid : Prop := Claim7.holds Tryd.pinned (.plain (OpenSpec.upto fnExactCountBySizeSpec)) fnExactCountBySizeUptoCard

/-- THE SECOND FORM's CARD OF 'laws.FnExactSwingsOf'. -/
def fnExactSwingsOfUptoCard : Claim7 := { stood := { row := fnExactSwingsOfUptoRow, standIns := [], harness := (true, "5b23cf5111eb44403eb268a2186d962d74f198792e1b76a0e82b0b20f7b1d231"), looks := true }, kinds := [], alts := [], laidByText := true, laidKinds := [.data, .data, .data], laidTests := true, laidLooks := .later }
def FnExactSwingsOfUptoCardSaid : Prop := Claim7.holds Tryd.pinned (.plain (OpenSpec.upto fnExactSwingsOfSpec)) fnExactSwingsOfUptoCard
end Rows
end Go.Proofs.YtpkflamhniidiaaDoor
