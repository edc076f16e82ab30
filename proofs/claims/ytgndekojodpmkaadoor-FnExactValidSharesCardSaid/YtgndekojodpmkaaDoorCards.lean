/-
  DERIVED. GIVEN WITH THE SEED: THE CARDS: each row of YtgndekojodpmkaaDoorRows.lean that lists a variable, with what it lists TIED to the program's text (the seventh form; the later family's looks); each row that meets fmt, with fmt's text TOLD by the authors' own Lean function (tested against real Go, not proved from fmt's source: count such statements apart). THE CARD IS WHAT COUNTS. Prove the row's statement (the work); the ties are given (YtgndekojodpmkaaDoorTie.lean); close each card by the builder's one call (the guide's Derived/Test/ToyasCard.lean, 'card_holds'). Laid BY PROGRAM, IN A SANDBOX (cutbox-door.mjs). By AI agents, Wed Nov 11 2026. No macro, syntax, notation, axiom, sorry.
-/
import Derived.Test.YtgndekojodpmkaaDoorRows
import GoSem.ClaimSeven
namespace Go.Proofs.YtgndekojodpmkaaDoor
namespace Rows

/-- THE TIED CARD OF 'laws.FnExactTableText'. -/
def fnExactTableTextCard : Claim7 := { stood := { row := fnExactTableTextRow, standIns := [], harness := (true, "2e438c67e39f12ed501cd1b226b5d5533e2367f4bfa2db34c9a5deb99bef8057"), looks := true }, kinds := [], alts := [], laidByText := true, laidKinds := [.data, .data, .data], laidTests := true, laidLooks := .later }
def FnExactTableTextCardSaid : Prop := Claim7.holds Tryd.pinned (.plain (OpenSpec.ofChange fnExactTableTextSpec)) fnExactTableTextCard

/-- THE TIED CARD OF 'laws.FnExactCurveAt'. -/
def fnExactCurveAtCard : Claim7 := { stood := { row := fnExactCurveAtRow, standIns := [], harness := (true, "2e438c67e39f12ed501cd1b226b5d5533e2367f4bfa2db34c9a5deb99bef8057"), looks := true }, kinds := [], alts := [], laidByText := true, laidKinds := [.handle, .sentinel, .sentinel, .sentinel], laidTests := true, laidLooks := .later }
def FnExactCurveAtCardSaid : Prop := Claim7.holds Tryd.pinned (.plain (OpenSpec.ofChange fnExactCurveAtSpec)) fnExactCurveAtCard

/-- THE TIED CARD OF 'laws.FnExactValidShares'. -/
def fnExactValidSharesCard : Claim7 := { stood := { row := fnExactValidSharesRow, standIns := [], harness := (true, "2e438c67e39f12ed501cd1b226b5d5533e2367f4bfa2db34c9a5deb99bef8057"), looks := true }, kinds := [], alts := [], laidByText := true, laidKinds := [.sentinel, .sentinel], laidTests := true, laidLooks := .later }
def FnExactValidSharesCardSaid : Prop := Claim7.holds Tryd.pinned (.plain (OpenSpec.ofChange fnExactValidSharesSpec)) fnExactValidSharesCard

/-- THE TIED CARD OF 'laws.FnExactAddCurves'. -/
def fnExactAddCurvesCard : Claim7 := { stood := { row := fnExactAddCurvesRow, standIns := [], harness := (true, "2e438c67e39f12ed501cd1b226b5d5533e2367f4bfa2db34c9a5deb99bef8057"), looks := true }, kinds := [], alts := [], laidByText := true, laidKinds := [.handle, .sentinel, .sentinel], laidTests := true, laidLooks := .later }
def FnExactAddCurvesCardSaid : Prop := Claim7.holds Tryd.pinned (.plain (OpenSpec.ofChange fnExactAddCurvesSpec)) fnExactAddCurvesCard

/-- THE TIED CARD OF 'laws.FnExactScaleCurve'. -/
def fnExactScaleCurveCard : Claim7 := { stood := { row := fnExactScaleCurveRow, standIns := [], harness := (true, "2e438c67e39f12ed501cd1b226b5d5533e2367f4bfa2db34c9a5deb99bef8057"), looks := true }, kinds := [], alts := [], laidByText := true, laidKinds := [.handle, .sentinel, .sentinel, .sentinel], laidTests := true, laidLooks := .later }
def FnExactScaleCurveCardSaid : Prop := Claim7.holds Tryd.pinned (.plain (OpenSpec.ofChange fnExactScaleCurveSpec)) fnExactScaleCurveCard

/-- THE TIED CARD OF 'laws.FnExactDealShares'. -/
def fnExactDealSharesCard : Claim7 := { stood := { row := fnExactDealSharesRow, standIns := [], harness := (true, "2e438c67e39f12ed501cd1b226b5d5533e2367f4bfa2db34c9a5deb99bef8057"), looks := true }, kinds := [], alts := [], laidByText := true, laidKinds := [.handle, .sentinel, .sentinel, .sentinel], laidTests := true, laidLooks := .later }
def FnExactDealSharesCardSaid : Prop := Claim7.holds Tryd.pinned (.plain (OpenSpec.ofChange fnExactDealSharesSpec)) fnExactDealSharesCard

/-- THE SECOND FORM's CARD OF 'laws.FnExactTableText'. -/
def fnExactTableTextUptoCard : Claim7 := { stood := { row := fnExactTableTextUptoRow, standIns := [], harness := (true, "2e438c67e39f12ed501cd1b226b5d5533e2367f4bfa2db34c9a5deb99bef8057"), looks := true }, kinds := [], alts := [], laidByText := true, laidKinds := [.data, .data, .data], laidTests := true, laidLooks := .later }
def FnExactTableTextUptoCardSaid : Prop := Claim7.holds Tryd.pinned (.plain (OpenSpec.upto fnExactTableTextSpec)) fnExactTableTextUptoCard

/-- THE SECOND FORM's CARD OF 'laws.FnExactCurveAt'. -/
def fnExactCurveAtUptoCard : Claim7 := { stood := { row := fnExactCurveAtUptoRow, standIns := [], harness := (true, "2e438c67e39f12ed501cd1b226b5d5533e2367f4bfa2db34c9a5deb99bef8057"), looks := true }, kinds := [], alts := [], laidByText := true, laidKinds := [.handle, .sentinel, .sentinel, .sentinel], laidTests := true, laidLooks := .later }
def FnExactCurveAtUptoCardSaid : Prop := Claim7.holds Tryd.pinned (.plain (OpenSpec.upto fnExactCurveAtSpec)) fnExactCurveAtUptoCard

/-- THE SECOND FORM's CARD OF 'laws.FnExactValidShares'. -/
def fnExactValidSharesUptoCard : Claim7 := { stood := { row := fnExactValidSharesUptoRow, standIns := [], harness := (true, "2e438c67e39f12ed501cd1b226b5d5533e2367f4bfa2db34c9a5deb99bef8057"), looks := true }, kinds := [], alts := [], laidByText := true, laidKinds := [.sentinel, .sentinel], laidTests := true, laidLooks := .later }
def FnExactValidSharesUptoCardSaid : Prop := Claim7.holds Tryd.pinned (.plain (OpenSpec.upto fnExactValidSharesSpec)) fnExactValidSharesUptoCard

/-- THE SECOND FORM's CARD OF 'laws.FnExactAddCurves'. -/
def fnExactAddCurvesUptoCard : Claim7 := { stood := { row := fnExactAddCurvesUptoRow, standIns := [], harness := (true, "2e438c67e39f12ed501cd1b226b5d5533e2367f4bfa2db34c9a5deb99bef8057"), looks := true }, kinds := [], alts := [], laidByText := true, laidKinds := [.handle, .sentinel, .sentinel], laidTests := true, laidLooks := .later }
def FnExactAddCurvesUptoCardSaid : Prop := Claim7.holds Tryd.pinned (.plain (OpenSpec.upto fnExactAddCurvesSpec)) fnExactAddCurvesUptoCard

/-- THE SECOND FORM's CARD OF 'laws.FnExactScaleCurve'. -/
def fnExactScaleCurveUptoCard : Claim7 := { stood := { row := fnExactScaleCurveUptoRow, standIns := [], harness := (true, "2e438c67e39f12ed501cd1b226b5d5533e2367f4bfa2db34c9a5deb99bef8057"), looks := true }, kinds := [], alts := [], laidByText := true, laidKinds := [.handle, .sentinel, .sentinel, .sentinel], laidTests := true, laidLooks := .later }
def FnExactScaleCurveUptoCardSaid : Prop := Claim7.holds Tryd.pinned (.plain (OpenSpec.upto fnExactScaleCurveSpec)) fnExactScaleCurveUptoCard

/-- THE SECOND FORM's CARD OF 'laws.FnExactDealShares'. -/
def fnExactDealSharesUptoCard : Claim7 := { stood := { row := fnExactDealSharesUptoRow, standIns := [], harness := (true, "2e438c67e39f12ed501cd1b226b5d5533e2367f4bfa2db34c9a5deb99bef8057"), looks := true }, kinds := [], alts := [], laidByText := true, laidKinds := [.handle, .sentinel, .sentinel, .sentinel], laidTests := true, laidLooks := .later }
def FnExactDealSharesUptoCardSaid : Prop := Claim7.holds Tryd.pinned (.plain (OpenSpec.upto fnExactDealSharesSpec)) fnExactDealSharesUptoCard
end Rows
end Go.Proofs.YtgndekojodpmkaaDoor
