/-
  DERIVED. GIVEN WITH THE SEED: THE CARDS: each row of YtppjogkednclcaaDoorRows.lean that lists a variable, with what it lists TIED to the program's text (the seventh form; the later family's looks); each row that meets fmt, with fmt's text TOLD by the authors' own Lean function (tested against real Go, not proved from fmt's source: count such statements apart). THE CARD IS WHAT COUNTS. Prove the row's statement (the work); the ties are given (YtppjogkednclcaaDoorTie.lean); close each card by the builder's one call (the guide's Derived/Test/ToyasCard.lean, 'card_holds'). Laid BY PROGRAM, IN A SANDBOX (cutbox-door.mjs). By AI agents, Wed Nov 11 2026. No macro, syntax, notation, axiom, sorry.
-/
import Derived.Test.YtppjogkednclcaaDoorRows
import GoSem.ClaimSeven
namespace Go.Proofs.YtppjogkednclcaaDoor
namespace Rows

/-- THE TIED CARD OF 'laws.FnExactDomainCut'. -/
def fnExactDomainCutCard : Claim7 := { stood := { row := fnExactDomainCutRow, standIns := [], harness := (true, "9762e7fab8ab35a8f6c9983e4f50586d84021ab4fcb286a8aec37ac06ad7347d"), looks := false }, kinds := [], alts := [], laidByText := true, laidKinds := [.data], laidTests := true, laidLooks := .later }
def FnExactDomainCutCardSaid : Prop := Claim7.holds Tryd.pinned (.plain (OpenSpec.ofChange fnExactDomainCutSpec)) fnExactDomainCutCard

/-- THE TIED CARD OF 'laws.FnExactFunSteps'. -/
def fnExactFunStepsCard : Claim7 := { stood := { row := fnExactFunStepsRow, standIns := [], harness := (true, "9762e7fab8ab35a8f6c9983e4f50586d84021ab4fcb286a8aec37ac06ad7347d"), looks := false }, kinds := [], alts := [], laidByText := true, laidKinds := [.data], laidTests := true, laidLooks := .later }
def FnExactFunStepsCardSaid : Prop := Claim7.holds Tryd.pinned (.plain (OpenSpec.ofChange fnExactFunStepsSpec)) fnExactFunStepsCard

/-- THE TIED CARD OF 'laws.FnExactFunStable'. -/
def fnExactFunStableCard : Claim7 := { stood := { row := fnExactFunStableRow, standIns := [], harness := (true, "9762e7fab8ab35a8f6c9983e4f50586d84021ab4fcb286a8aec37ac06ad7347d"), looks := false }, kinds := [], alts := [], laidByText := true, laidKinds := [.data], laidTests := true, laidLooks := .later }
def FnExactFunStableCardSaid : Prop := Claim7.holds Tryd.pinned (.plain (OpenSpec.ofChange fnExactFunStableSpec)) fnExactFunStableCard

/-- THE TIED CARD OF 'laws.FnExactFunParts'. -/
def fnExactFunPartsCard : Claim7 := { stood := { row := fnExactFunPartsRow, standIns := [], harness := (true, "9762e7fab8ab35a8f6c9983e4f50586d84021ab4fcb286a8aec37ac06ad7347d"), looks := false }, kinds := [], alts := [], laidByText := true, laidKinds := [.data], laidTests := true, laidLooks := .later }
def FnExactFunPartsCardSaid : Prop := Claim7.holds Tryd.pinned (.plain (OpenSpec.ofChange fnExactFunPartsSpec)) fnExactFunPartsCard

/-- THE SECOND FORM's CARD OF 'laws.FnExactDomainCut'. -/
def fnExactDomainCutUptoCard : Claim7 := { stood := { row := fnExactDomainCutUptoRow, standIns := [], harness := (true, "9762e7fab8ab35a8f6c9983e4f50586d84021ab4fcb286a8aec37ac06ad7347d"), looks := false }, kinds := [], alts := [], laidByText := true, laidKinds := [.data], laidTests := true, laidLooks := .later }
def FnExactDomainCutUptoCardSaid : Prop := Claim7.holds Tryd.pinned (.plain (OpenSpec.upto fnExactDomainCutSpec)) fnExactDomainCutUptoCard

/-- THE SECOND FORM's CARD OF 'laws.FnExactFunSteps'. -/
def fnExactFunStepsUptoCard : Claim7 := { stood := { row := fnExactFunStepsUptoRow, standIns := [], harness := (true, "9762e7fab8ab35a8f6c9983e4f50586d84021ab4fcb286a8aec37ac06ad7347d"), looks := false }, kinds := [], alts := [], laidByText := true, laidKinds := [.data], laidTests := true, laidLooks := .later }
def FnExactFunStepsUptoCardSaid : Prop := Claim7.holds Tryd.pinned (.plain (OpenSpec.upto fnExactFunStepsSpec)) fnExactFunStepsUptoCard

/-- THE SECOND FORM's CARD OF 'laws.FnExactFunStable'. -/
def fnExactFunStableUptoCard : Claim7 := { stood := { row := fnExactFunStableUptoRow, standIns := [], harness := (true, "9762e7fab8ab35a8f6c9983e4f50586d84021ab4fcb286a8aec37ac06ad7347d"), looks := false }, kinds := [], alts := [], laidByText := true, laidKinds := [.data], laidTests := true, laidLooks := .later }
def FnExactFunStableUptoCardSaid : Prop := Claim7.holds Tryd.pinned (.plain (OpenSpec.upto fnExactFunStableSpec)) fnExactFunStableUptoCard

/-- THE SECOND FORM's CARD OF 'laws.FnExactFunParts'. -/
def fnExactFunPartsUptoCard : Claim7 := { stood := { row := fnExactFunPartsUptoRow, standIns := [], harness := (true, "9762e7fab8ab35a8f6c9983e4f50586d84021ab4fcb286a8aec37ac06ad7347d"), looks := false }, kinds := [], alts := [], laidByText := true, laidKinds := [.data], laidTests := true, laidLooks := .later }
def FnExactFunPartsUptoCardSaid : Prop := Claim7.holds Tryd.pinned (.plain (OpenSpec.upto fnExactFunPartsSpec)) fnExactFunPartsUptoCard
end Rows
end Go.Proofs.YtppjogkednclcaaDoor
