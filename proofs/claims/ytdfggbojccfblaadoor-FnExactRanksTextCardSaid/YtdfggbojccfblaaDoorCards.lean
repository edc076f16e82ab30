/-
  DERIVED. GIVEN WITH THE SEED: THE CARDS: each row of YtdfggbojccfblaaDoorRows.lean that lists a variable, with what it lists TIED to the program's text (the seventh form; the later family's looks); each row that meets fmt, with fmt's text TOLD by the authors' own Lean function (tested against real Go, not proved from fmt's source: count such statements apart). THE CARD IS WHAT COUNTS. Prove the row's statement (the work); the ties are given (YtdfggbojccfblaaDoorTie.lean); close each card by the builder's one call (the guide's Derived/Test/ToyasCard.lean, 'card_holds'). Laid BY PROGRAM, IN A SANDBOX (cutbox-door.mjs). By AI agents, Wed Nov 11 2026. No macro, syntax, notation, axiom, sorry.
-/
import Derived.Test.YtdfggbojccfblaaDoorRows
import GoSem.ClaimSeven
namespace Go.Proofs.YtdfggbojccfblaaDoor
namespace Rows

/-- THE TIED CARD OF 'laws.FnExactRanksText'. -/
def fnExactRanksTextCard : Claim7 := { stood := { row := fnExactRanksTextRow, standIns := [], harness := (true, "6d61294b2565dd4bf07e02aaddad75f1f1aa0462d47ae4ecb21146bed553dcd6"), looks := true }, kinds := [], alts := [], laidByText := true, laidKinds := [.data, .data, .data], laidTests := true, laidLooks := .later }
def FnExactRanksTextCardSaid : Prop := Claim7.holds Tryd.pinned (.plain (OpenSpec.ofChange fnExactRanksTextSpec)) fnExactRanksTextCard

/-- THE TIED CARD OF 'laws.FnExactFitsFamily'. -/
def fnExactFitsFamilyCard : Claim7 := { stood := { row := fnExactFitsFamilyRow, standIns := [], harness := (true, "6d61294b2565dd4bf07e02aaddad75f1f1aa0462d47ae4ecb21146bed553dcd6"), looks := true }, kinds := [], alts := [], laidByText := true, laidKinds := [.data, .data, .data], laidTests := true, laidLooks := .later }
def FnExactFitsFamilyCardSaid : Prop := Claim7.holds Tryd.pinned (.plain (OpenSpec.ofChange fnExactFitsFamilySpec)) fnExactFitsFamilyCard

/-- THE TIED CARD OF 'laws.FnExactFirstMisfit'. -/
def fnExactFirstMisfitCard : Claim7 := { stood := { row := fnExactFirstMisfitRow, standIns := [], harness := (true, "6d61294b2565dd4bf07e02aaddad75f1f1aa0462d47ae4ecb21146bed553dcd6"), looks := true }, kinds := [], alts := [], laidByText := true, laidKinds := [.data, .data, .data], laidTests := true, laidLooks := .later }
def FnExactFirstMisfitCardSaid : Prop := Claim7.holds Tryd.pinned (.plain (OpenSpec.ofChange fnExactFirstMisfitSpec)) fnExactFirstMisfitCard

/-- THE TIED CARD OF 'laws.FnExactDualRanks'. -/
def fnExactDualRanksCard : Claim7 := { stood := { row := fnExactDualRanksRow, standIns := [], harness := (true, "6d61294b2565dd4bf07e02aaddad75f1f1aa0462d47ae4ecb21146bed553dcd6"), looks := true }, kinds := [], alts := [], laidByText := true, laidKinds := [.data, .data, .data], laidTests := true, laidLooks := .later }
def FnExactDualRanksCardSaid : Prop := Claim7.holds Tryd.pinned (.plain (OpenSpec.ofChange fnExactDualRanksSpec)) fnExactDualRanksCard

/-- THE TIED CARD OF 'laws.FnExactTermBound'. -/
def fnExactTermBoundCard : Claim7 := { stood := { row := fnExactTermBoundRow, standIns := [], harness := (true, "6d61294b2565dd4bf07e02aaddad75f1f1aa0462d47ae4ecb21146bed553dcd6"), looks := true }, kinds := [], alts := [], laidByText := true, laidKinds := [.data, .data, .data], laidTests := true, laidLooks := .later }
def FnExactTermBoundCardSaid : Prop := Claim7.holds Tryd.pinned (.plain (OpenSpec.ofChange fnExactTermBoundSpec)) fnExactTermBoundCard

/-- THE SECOND FORM's CARD OF 'laws.FnExactRanksText'. -/
def fnExactRanksTextUptoCard : Claim7 := { stood := { row := fnExactRanksTextUptoRow, standIns := [], harness := (true, "6d61294b2565dd4bf07e02aaddad75f1f1aa0462d47ae4ecb21146bed553dcd6"), looks := true }, kinds := [], alts := [], laidByText := true, laidKinds := [.data, .data, .data], laidTests := true, laidLooks := .later }
def FnExactRanksTextUptoCardSaid : Prop := Claim7.holds Tryd.pinned (.plain (OpenSpec.upto fnExactRanksTextSpec)) fnExactRanksTextUptoCard

/-- THE SECOND FORM's CARD OF 'laws.FnExactFitsFamily'. -/
def fnExactFitsFamilyUptoCard : Claim7 := { stood := { row := fnExactFitsFamilyUptoRow, standIns := [], harness := (true, "6d61294b2565dd4bf07e02aaddad75f1f1aa0462d47ae4ecb21146bed553dcd6"), looks := true }, kinds := [], alts := [], laidByText := true, laidKinds := [.data, .data, .data], laidTests := true, laidLooks := .later }
def FnExactFitsFamilyUptoCardSaid : Prop := Claim7.holds Tryd.pinned (.plain (OpenSpec.upto fnExactFitsFamilySpec)) fnExactFitsFamilyUptoCard

/-- THE SECOND FORM's CARD OF 'laws.FnExactFirstMisfit'. -/
def fnExactFirstMisfitUptoCard : Claim7 := { stood := { row := fnExactFirstMisfitUptoRow, standIns := [], harness := (true, "6d61294b2565dd4bf07e02aaddad75f1f1aa0462d47ae4ecb21146bed553dcd6"), looks := true }, kinds := [], alts := [], laidByText := true, laidKinds := [.data, .data, .data], laidTests := true, laidLooks := .later }
def FnExactFirstMisfitUptoCardSaid : Prop := Claim7.holds Tryd.pinned (.plain (OpenSpec.upto fnExactFirstMisfitSpec)) fnExactFirstMisfitUptoCard

/-- THE SECOND FORM's CARD OF 'laws.FnExactDualRanks'. -/
def fnExactDualRanksUptoCard : Claim7 := { stood := { row := fnExactDualRanksUptoRow, standIns := [], harness := (true, "6d61294b2565dd4bf07e02aaddad75f1f1aa0462d47ae4ecb21146bed553dcd6"), looks := true }, kinds := [], alts := [], laidByText := true, laidKinds := [.data, .data, .data], laidTests := true, laidLooks := .later }
def FnExactDualRanksUptoCardSaid : Prop := Claim7.holds Tryd.pinned (.plain (OpenSpec.upto fnExactDualRanksSpec)) fnExactDualRanksUptoCard

/-- THE SECOND FORM's CARD OF 'laws.FnExactTermBound'. -/
def fnExactTermBoundUptoCard : Claim7 := { stood := { row := fnExactTermBoundUptoRow, standIns := [], harness := (true, "6d61294b2565dd4bf07e02aaddad75f1f1aa0462d47ae4ecb21146bed553dcd6"), looks := true }, kinds := [], alts := [], laidByText := true, laidKinds := [.data, .data, .data], laidTests := true, laidLooks := .later }
def FnExactTermBoundUptoCardSaid : Prop := Claim7.holds Tryd.pinned (.plain (OpenSpec.upto fnExactTermBoundSpec)) fnExactTermBoundUptoCard
end Rows
end Go.Proofs.YtdfggbojccfblaaDoor
