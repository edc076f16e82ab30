/-
  DERIVED. GIVEN WITH THE SEED: THE CARDS: each row of YthmjcmhaijiedaaDoorRows.lean that lists a variable, with what it lists TIED to the program's text (the seventh form; the later family's looks); each row that meets fmt, with fmt's text TOLD by the authors' own Lean function (tested against real Go, not proved from fmt's source: count such statements apart). THE CARD IS WHAT COUNTS. Prove the row's statement (the work); the ties are given (YthmjcmhaijiedaaDoorTie.lean); close each card by the builder's one call (the guide's Derived/Test/ToyasCard.lean, 'card_holds'). Laid BY PROGRAM, IN A SANDBOX (cutbox-door.mjs). By AI agents, Wed Nov 11 2026. No macro, syntax, notation, axiom, sorry.
-/
import Derived.Test.YthmjcmhaijiedaaDoorRows
import GoSem.ClaimSeven
namespace Go.Proofs.YthmjcmhaijiedaaDoor
namespace Rows

/-- THE TIED CARD OF 'laws.FnExactFirstMisfit'. -/
def fnExactFirstMisfitCard : Claim7 := { stood := { row := fnExactFirstMisfitRow, standIns := [], harness := (true, "f48df78f8f1649faf1f9d3efbd8459940163dd170a5d224d8aad52d8ef0116e5"), looks := true }, kinds := [], alts := [], laidByText := true, laidKinds := [.data, .data, .data], laidTests := true, laidLooks := .later }
def FnExactFirstMisfitCardSaid : Prop := Claim7.holds Tryd.pinned (.plain (OpenSpec.ofChange fnExactFirstMisfitSpec)) fnExactFirstMisfitCard

/-- THE TIED CARD OF 'laws.FnExactDualRanks'. -/
def fnExactDualRanksCard : Claim7 := { stood := { row := fnExactDualRanksRow, standIns := [], harness := (true, "f48df78f8f1649faf1f9d3efbd8459940163dd170a5d224d8aad52d8ef0116e5"), looks := true }, kinds := [], alts := [], laidByText := true, laidKinds := [.data, .data, .data], laidTests := true, laidLooks := .later }
def FnExactDualRanksCardSaid : Prop := Claim7.holds Tryd.pinned (.plain (OpenSpec.ofChange fnExactDualRanksSpec)) fnExactDualRanksCard

/-- THE TIED CARD OF 'laws.FnExactValidDeed'. -/
def fnExactValidDeedCard : Claim7 := { stood := { row := fnExactValidDeedRow, standIns := [], harness := (true, "f48df78f8f1649faf1f9d3efbd8459940163dd170a5d224d8aad52d8ef0116e5"), looks := true }, kinds := [], alts := [], laidByText := true, laidKinds := [.data], laidTests := true, laidLooks := .later }
def FnExactValidDeedCardSaid : Prop := Claim7.holds Tryd.pinned (.plain (OpenSpec.ofChange fnExactValidDeedSpec)) fnExactValidDeedCard

/-- THE TIED CARD OF 'laws.FnExactDeedText'. -/
def fnExactDeedTextCard : Claim7 := { stood := { row := fnExactDeedTextRow, standIns := [], harness := (true, "f48df78f8f1649faf1f9d3efbd8459940163dd170a5d224d8aad52d8ef0116e5"), looks := true }, kinds := [], alts := [], laidByText := true, laidKinds := [.data, .data, .data, .data], laidTests := true, laidLooks := .later }
def FnExactDeedTextCardSaid : Prop := Claim7.holds Tryd.pinned (.plain (OpenSpec.ofChange fnExactDeedTextSpec)) fnExactDeedTextCard

/-- THE TIED CARD OF 'laws.FnExactValidDeal'. -/
def fnExactValidDealCard : Claim7 := { stood := { row := fnExactValidDealRow, standIns := [], harness := (true, "f48df78f8f1649faf1f9d3efbd8459940163dd170a5d224d8aad52d8ef0116e5"), looks := true }, kinds := [], alts := [], laidByText := true, laidKinds := [.sentinel], laidTests := true, laidLooks := .later }
def FnExactValidDealCardSaid : Prop := Claim7.holds Tryd.pinned (.plain (OpenSpec.ofChange fnExactValidDealSpec)) fnExactValidDealCard

/-- THE TIED CARD OF 'laws.FnExactDealValues'. -/
def fnExactDealValuesCard : Claim7 := { stood := { row := fnExactDealValuesRow, standIns := [], harness := (true, "f48df78f8f1649faf1f9d3efbd8459940163dd170a5d224d8aad52d8ef0116e5"), looks := true }, kinds := [], alts := [], laidByText := true, laidKinds := [.sentinel], laidTests := true, laidLooks := .later }
def FnExactDealValuesCardSaid : Prop := Claim7.holds Tryd.pinned (.plain (OpenSpec.ofChange fnExactDealValuesSpec)) fnExactDealValuesCard

/-- THE TIED CARD OF 'laws.FnExactDealTags'. -/
def fnExactDealTagsCard : Claim7 := { stood := { row := fnExactDealTagsRow, standIns := [], harness := (true, "f48df78f8f1649faf1f9d3efbd8459940163dd170a5d224d8aad52d8ef0116e5"), looks := true }, kinds := [], alts := [], laidByText := true, laidKinds := [.sentinel], laidTests := true, laidLooks := .later }
def FnExactDealTagsCardSaid : Prop := Claim7.holds Tryd.pinned (.plain (OpenSpec.ofChange fnExactDealTagsSpec)) fnExactDealTagsCard

/-- THE TIED CARD OF 'laws.FnExactTagsFit'. -/
def fnExactTagsFitCard : Claim7 := { stood := { row := fnExactTagsFitRow, standIns := [], harness := (true, "f48df78f8f1649faf1f9d3efbd8459940163dd170a5d224d8aad52d8ef0116e5"), looks := true }, kinds := [], alts := [], laidByText := true, laidKinds := [.sentinel], laidTests := true, laidLooks := .later }
def FnExactTagsFitCardSaid : Prop := Claim7.holds Tryd.pinned (.plain (OpenSpec.ofChange fnExactTagsFitSpec)) fnExactTagsFitCard

/-- THE TIED CARD OF 'laws.FnExactLiesThatPass'. -/
def fnExactLiesThatPassCard : Claim7 := { stood := { row := fnExactLiesThatPassRow, standIns := [], harness := (true, "f48df78f8f1649faf1f9d3efbd8459940163dd170a5d224d8aad52d8ef0116e5"), looks := true }, kinds := [], alts := [], laidByText := true, laidKinds := [.sentinel], laidTests := true, laidLooks := .later }
def FnExactLiesThatPassCardSaid : Prop := Claim7.holds Tryd.pinned (.plain (OpenSpec.ofChange fnExactLiesThatPassSpec)) fnExactLiesThatPassCard

/-- THE SECOND FORM's CARD OF 'laws.FnExactFirstMisfit'. -/
def fnExactFirstMisfitUptoCard : Claim7 := { stood := { row := fnExactFirstMisfitUptoRow, standIns := [], harness := (true, "f48df78f8f1649faf1f9d3efbd8459940163dd170a5d224d8aad52d8ef0116e5"), looks := true }, kinds := [], alts := [], laidByText := true, laidKinds := [.data, .data, .data], laidTests := true, laidLooks := .later }
def FnExactFirstMisfitUptoCardSaid : Prop := Claim7.holds Tryd.pinned (.plain (OpenSpec.upto fnExactFirstMisfitSpec)) fnExactFirstMisfitUptoCard

/-- THE SECOND FORM's CARD OF 'laws.FnExactDualRanks'. -/
def fnExactDualRanksUptoCard : Claim7 := { stood := { row := fnExactDualRanksUptoRow, standIns := [], harness := (true, "f48df78f8f1649faf1f9d3efbd8459940163dd170a5d224d8aad52d8ef0116e5"), looks := true }, kinds := [], alts := [], laidByText := true, laidKinds := [.data, .data, .data], laidTests := true, laidLooks := .later }
def FnExactDualRanksUptoCardSaid : Prop := Claim7.holds Tryd.pinned (.plain (OpenSpec.upto fnExactDualRanksSpec)) fnExactDualRanksUptoCard

/-- THE SECOND FORM's CARD OF 'laws.FnExactValidDeed'. -/
def fnExactValidDeedUptoCard : Claim7 := { stood := { row := fnExactValidDeedUptoRow, standIns := [], harness := (true, "f48df78f8f1649faf1f9d3efbd8459940163dd170a5d224d8aad52d8ef0116e5"), looks := true }, kinds := [], alts := [], laidByText := true, laidKinds := [.data], laidTests := true, laidLooks := .later }
def FnExactValidDeedUptoCardSaid : Prop := Claim7.holds Tryd.pinned (.plain (OpenSpec.upto fnExactValidDeedSpec)) fnExactValidDeedUptoCard

/-- THE SECOND FORM's CARD OF 'laws.FnExactDeedText'. -/
def fnExactDeedTextUptoCard : Claim7 := { stood := { row := fnExactDeedTextUptoRow, standIns := [], harness := (true, "f48df78f8f1649faf1f9d3efbd8459940163dd170a5d224d8aad52d8ef0116e5"), looks := true }, kinds := [], alts := [], laidByText := true, laidKinds := [.data, .data, .data, .data], laidTests := true, laidLooks := .later }
def FnExactDeedTextUptoCardSaid : Prop := Claim7.holds Tryd.pinned (.plain (OpenSpec.upto fnExactDeedTextSpec)) fnExactDeedTextUptoCard

/-- THE SECOND FORM's CARD OF 'laws.FnExactValidDeal'. -/
def fnExactValidDealUptoCard : Claim7 := { stood := { row := fnExactValidDealUptoRow, standIns := [], harness := (true, "f48df78f8f1649faf1f9d3efbd8459940163dd170a5d224d8aad52d8ef0116e5"), looks := true }, kinds := [], alts := [], laidByText := true, laidKinds := [.sentinel], laidTests := true, laidLooks := .later }
def FnExactValidDealUptoCardSaid : Prop := Claim7.holds Tryd.pinned (.plain (OpenSpec.upto fnExactValidDealSpec)) fnExactValidDealUptoCard

/-- THE SECOND FORM's CARD OF 'laws.FnExactDealValues'. -/
def fnExactDealValuesUptoCard : Claim7 := { stood := { row := fnExactDealValuesUptoRow, standIns := [], harness := (true, "f48df78f8f1649faf1f9d3efbd8459940163dd170a5d224d8aad52d8ef0116e5"), looks := true }, kinds := [], alts := [], laidByText := true, laidKinds := [.sentinel], laidTests := true, laidLooks := .later }
def FnExactDealValuesUptoCardSaid : Prop := Claim7.holds Tryd.pinned (.plain (OpenSpec.upto fnExactDealValuesSpec)) fnExactDealValuesUptoCard

/-- THE SECOND FORM's CARD OF 'laws.FnExactDealTags'. -/
def fnExactDealTagsUptoCard : Claim7 := { stood := { row := fnExactDealTagsUptoRow, standIns := [], harness := (true, "f48df78f8f1649faf1f9d3efbd8459940163dd170a5d224d8aad52d8ef0116e5"), looks := true }, kinds := [], alts := [], laidByText := true, laidKinds := [.sentinel], laidTests := true, laidLooks := .later }
def FnExactDealTagsUptoCardSaid : Prop := Claim7.holds Tryd.pinned (.plain (OpenSpec.upto fnExactDealTagsSpec)) fnExactDealTagsUptoCard

/-- THE SECOND FORM's CARD OF 'laws.FnExactTagsFit'. -/
def fnExactTagsFitUptoCard : Claim7 := { stood := { row := fnExactTagsFitUptoRow, standIns := [], harness := (true, "f48df78f8f1649faf1f9d3efbd8459940163dd170a5d224d8aad52d8ef0116e5"), looks := true }, kinds := [], alts := [], laidByText := true, laidKinds := [.sentinel], laidTests := true, laidLooks := .later }
def FnExactTagsFitUptoCardSaid : Prop := Claim7.holds Tryd.pinned (.plain (OpenSpec.upto fnExactTagsFitSpec)) fnExactTagsFitUptoCard

/-- THE SECOND FORM's CARD OF 'laws.FnExactLiesThatPass'. -/
def fnExactLiesThatPassUptoCard : Claim7 := { stood := { row := fnExactLiesThatPassUptoRow, standIns := [], harness := (true, "f48df78f8f1649faf1f9d3efbd8459940163dd170a5d224d8aad52d8ef0116e5"), looks := true }, kinds := [], alts := [], laidByText := true, laidKinds := [.sentinel], laidTests := true, laidLooks := .later }
def FnExactLiesThatPassUptoCardSaid : Prop := Claim7.holds Tryd.pinned (.plain (OpenSpec.upto fnExactLiesThatPassSpec)) fnExactLiesThatPassUptoCard
end Rows
end Go.Proofs.YthmjcmhaijiedaaDoor
