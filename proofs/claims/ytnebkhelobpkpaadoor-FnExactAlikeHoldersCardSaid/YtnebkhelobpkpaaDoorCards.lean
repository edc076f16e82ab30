/-
  DERIVED. GIVEN WITH THE SEED: THE CARDS: each row of YtnebkhelobpkpaaDoorRows.lean that lists a variable, with what it lists TIED to the program's text (the seventh form; the later family's looks); each row that meets fmt, with fmt's text TOLD by the authors' own Lean function (tested against real Go, not proved from fmt's source: count such statements apart). THE CARD IS WHAT COUNTS. Prove the row's statement (the work); the ties are given (YtnebkhelobpkpaaDoorTie.lean); close each card by the builder's one call (the guide's Derived/Test/ToyasCard.lean, 'card_holds'). Laid BY PROGRAM, IN A SANDBOX (cutbox-door.mjs). By AI agents, Wed Nov 11 2026. No macro, syntax, notation, axiom, sorry.
-/
import Derived.Test.YtnebkhelobpkpaaDoorRows
import GoSem.ClaimSeven
namespace Go.Proofs.YtnebkhelobpkpaaDoor
namespace Rows

/-- THE TIED CARD OF 'laws.FnExactAlikeHolders'. -/
def fnExactAlikeHoldersCard : Claim7 := { stood := { row := fnExactAlikeHoldersRow, standIns := [], harness := (true, "4bcf7a18e678c38f77a8b1dc478b0f5e0574699b41213499db88205322e9d75a"), looks := true }, kinds := [], alts := [], laidByText := true, laidKinds := [.data, .data, .data], laidTests := true, laidLooks := .later }
def FnExactAlikeHoldersCardSaid : Prop := Claim7.holds Tryd.pinned (.plain (OpenSpec.ofChange fnExactAlikeHoldersSpec)) fnExactAlikeHoldersCard

/-- THE TIED CARD OF 'laws.FnExactDualRanks'. -/
def fnExactDualRanksCard : Claim7 := { stood := { row := fnExactDualRanksRow, standIns := [], harness := (true, "4bcf7a18e678c38f77a8b1dc478b0f5e0574699b41213499db88205322e9d75a"), looks := true }, kinds := [], alts := [], laidByText := true, laidKinds := [.data, .data, .data], laidTests := true, laidLooks := .later }
def FnExactDualRanksCardSaid : Prop := Claim7.holds Tryd.pinned (.plain (OpenSpec.ofChange fnExactDualRanksSpec)) fnExactDualRanksCard

/-- THE TIED CARD OF 'laws.FnExactValidDeal'. -/
def fnExactValidDealCard : Claim7 := { stood := { row := fnExactValidDealRow, standIns := [], harness := (true, "4bcf7a18e678c38f77a8b1dc478b0f5e0574699b41213499db88205322e9d75a"), looks := true }, kinds := [], alts := [], laidByText := true, laidKinds := [.sentinel], laidTests := true, laidLooks := .later }
def FnExactValidDealCardSaid : Prop := Claim7.holds Tryd.pinned (.plain (OpenSpec.ofChange fnExactValidDealSpec)) fnExactValidDealCard

/-- THE TIED CARD OF 'laws.FnExactDealValues'. -/
def fnExactDealValuesCard : Claim7 := { stood := { row := fnExactDealValuesRow, standIns := [], harness := (true, "4bcf7a18e678c38f77a8b1dc478b0f5e0574699b41213499db88205322e9d75a"), looks := true }, kinds := [], alts := [], laidByText := true, laidKinds := [.sentinel], laidTests := true, laidLooks := .later }
def FnExactDealValuesCardSaid : Prop := Claim7.holds Tryd.pinned (.plain (OpenSpec.ofChange fnExactDealValuesSpec)) fnExactDealValuesCard

/-- THE TIED CARD OF 'laws.FnExactDealTags'. -/
def fnExactDealTagsCard : Claim7 := { stood := { row := fnExactDealTagsRow, standIns := [], harness := (true, "4bcf7a18e678c38f77a8b1dc478b0f5e0574699b41213499db88205322e9d75a"), looks := true }, kinds := [], alts := [], laidByText := true, laidKinds := [.sentinel], laidTests := true, laidLooks := .later }
def FnExactDealTagsCardSaid : Prop := Claim7.holds Tryd.pinned (.plain (OpenSpec.ofChange fnExactDealTagsSpec)) fnExactDealTagsCard

/-- THE SECOND FORM's CARD OF 'laws.FnExactAlikeHolders'. -/
def fnExactAlikeHoldersUptoCard : Claim7 := { stood := { row := fnExactAlikeHoldersUptoRow, standIns := [], harness := (true, "4bcf7a18e678c38f77a8b1dc478b0f5e0574699b41213499db88205322e9d75a"), looks := true }, kinds := [], alts := [], laidByText := true, laidKinds := [.data, .data, .data], laidTests := true, laidLooks := .later }
def FnExactAlikeHoldersUptoCardSaid : Prop := Claim7.holds Tryd.pinned (.plain (OpenSpec.upto fnExactAlikeHoldersSpec)) fnExactAlikeHoldersUptoCard

/-- THE SECOND FORM's CARD OF 'laws.FnExactDualRanks'. -/
def fnExactDualRanksUptoCard : Claim7 := { stood := { row := fnExactDualRanksUptoRow, standIns := [], harness := (true, "4bcf7a18e678c38f77a8b1dc478b0f5e0574699b41213499db88205322e9d75a"), looks := true }, kinds := [], alts := [], laidByText := true, laidKinds := [.data, .data, .data], laidTests := true, laidLooks := .later }
def FnExactDualRanksUptoCardSaid : Prop := Claim7.holds Tryd.pinned (.plain (OpenSpec.upto fnExactDualRanksSpec)) fnExactDualRanksUptoCard

/-- THE SECOND FORM's CARD OF 'laws.FnExactValidDeal'. -/
def fnExactValidDealUptoCard : Claim7 := { stood := { row := fnExactValidDealUptoRow, standIns := [], harness := (true, "4bcf7a18e678c38f77a8b1dc478b0f5e0574699b41213499db88205322e9d75a"), looks := true }, kinds := [], alts := [], laidByText := true, laidKinds := [.sentinel], laidTests := true, laidLooks := .later }
def FnExactValidDealUptoCardSaid : Prop := Claim7.holds Tryd.pinned (.plain (OpenSpec.upto fnExactValidDealSpec)) fnExactValidDealUptoCard

/-- THE SECOND FORM's CARD OF 'laws.FnExactDealValues'. -/
def fnExactDealValuesUptoCard : Claim7 := { stood := { row := fnExactDealValuesUptoRow, standIns := [], harness := (true, "4bcf7a18e678c38f77a8b1dc478b0f5e0574699b41213499db88205322e9d75a"), looks := true }, kinds := [], alts := [], laidByText := true, laidKinds := [.sentinel], laidTests := true, laidLooks := .later }
def FnExactDealValuesUptoCardSaid : Prop := Claim7.holds Tryd.pinned (.plain (OpenSpec.upto fnExactDealValuesSpec)) fnExactDealValuesUptoCard

/-- THE SECOND FORM's CARD OF 'laws.FnExactDealTags'. -/
def fnExactDealTagsUptoCard : Claim7 := { stood := { row := fnExactDealTagsUptoRow, standIns := [], harness := (true, "4bcf7a18e678c38f77a8b1dc478b0f5e0574699b41213499db88205322e9d75a"), looks := true }, kinds := [], alts := [], laidByText := true, laidKinds := [.sentinel], laidTests := true, laidLooks := .later }
def FnExactDealTagsUptoCardSaid : Prop := Claim7.holds Tryd.pinned (.plain (OpenSpec.upto fnExactDealTagsSpec)) fnExactDealTagsUptoCard
end Rows
end Go.Proofs.YtnebkhelobpkpaaDoor
