/-
  DERIVED. GIVEN WITH THE SEED: THE CARDS: each row of YtachmaldcakgcaaDoorRows.lean that lists a variable, with what it lists TIED to the program's text (the seventh form; the later family's looks); each row that meets fmt, with fmt's text TOLD by the authors' own Lean function (tested against real Go, not proved from fmt's source: count such statements apart). THE CARD IS WHAT COUNTS. Prove the row's statement (the work); the ties are given (YtachmaldcakgcaaDoorTie.lean); close each card by the builder's one call (the guide's Derived/Test/ToyasCard.lean, 'card_holds'). Laid BY PROGRAM, IN A SANDBOX (cutbox-door.mjs). By AI agents, Wed Nov 11 2026. No macro, syntax, notation, axiom, sorry.
-/
import Derived.Test.YtachmaldcakgcaaDoorRows
import GoSem.ClaimSeven
namespace Go.Proofs.YtachmaldcakgcaaDoor
namespace Rows

/-- THE TIED CARD OF 'laws.FnExactOrderCovers'. -/
def fnExactOrderCoversCard : Claim7 := { stood := { row := fnExactOrderCoversRow, standIns := [], harness := (true, "f13ffb28068f6e7b5fba1a8c7798b233012d6f442e814885ac85c0c2f3bcad1c"), looks := false }, kinds := [], alts := [], laidByText := true, laidKinds := [.data], laidTests := true, laidLooks := .later }
def FnExactOrderCoversCardSaid : Prop := Claim7.holds Tryd.pinned (.plain (OpenSpec.ofChange fnExactOrderCoversSpec)) fnExactOrderCoversCard

/-- THE TIED CARD OF 'laws.FnExactOrderFrom'. -/
def fnExactOrderFromCard : Claim7 := { stood := { row := fnExactOrderFromRow, standIns := [], harness := (true, "f13ffb28068f6e7b5fba1a8c7798b233012d6f442e814885ac85c0c2f3bcad1c"), looks := false }, kinds := [], alts := [], laidByText := true, laidKinds := [.data], laidTests := true, laidLooks := .later }
def FnExactOrderFromCardSaid : Prop := Claim7.holds Tryd.pinned (.plain (OpenSpec.ofChange fnExactOrderFromSpec)) fnExactOrderFromCard

/-- THE TIED CARD OF 'laws.FnHeight'. -/
def fnHeightCard : Claim7 := { stood := { row := fnHeightRow, standIns := [], harness := (true, "f13ffb28068f6e7b5fba1a8c7798b233012d6f442e814885ac85c0c2f3bcad1c"), looks := false }, kinds := [], alts := [], laidByText := true, laidKinds := [.data], laidTests := true, laidLooks := .later }
def FnHeightCardSaid : Prop := Claim7.holds Tryd.pinned (.plain (OpenSpec.ofChange fnHeightSpec)) fnHeightCard

/-- THE TIED CARD OF 'laws.FnExactDomainLift'. -/
def fnExactDomainLiftCard : Claim7 := { stood := { row := fnExactDomainLiftRow, standIns := [], harness := (true, "f13ffb28068f6e7b5fba1a8c7798b233012d6f442e814885ac85c0c2f3bcad1c"), looks := false }, kinds := [], alts := [], laidByText := true, laidKinds := [.data], laidTests := true, laidLooks := .later }
def FnExactDomainLiftCardSaid : Prop := Claim7.holds Tryd.pinned (.plain (OpenSpec.ofChange fnExactDomainLiftSpec)) fnExactDomainLiftCard

/-- THE TIED CARD OF 'laws.FnExactFunMonotone'. -/
def fnExactFunMonotoneCard : Claim7 := { stood := { row := fnExactFunMonotoneRow, standIns := [], harness := (true, "f13ffb28068f6e7b5fba1a8c7798b233012d6f442e814885ac85c0c2f3bcad1c"), looks := false }, kinds := [], alts := [], laidByText := true, laidKinds := [.data], laidTests := true, laidLooks := .later }
def FnExactFunMonotoneCardSaid : Prop := Claim7.holds Tryd.pinned (.plain (OpenSpec.ofChange fnExactFunMonotoneSpec)) fnExactFunMonotoneCard

/-- THE TIED CARD OF 'laws.FnExactFunAfter'. -/
def fnExactFunAfterCard : Claim7 := { stood := { row := fnExactFunAfterRow, standIns := [], harness := (true, "f13ffb28068f6e7b5fba1a8c7798b233012d6f442e814885ac85c0c2f3bcad1c"), looks := false }, kinds := [], alts := [], laidByText := true, laidKinds := [.data], laidTests := true, laidLooks := .later }
def FnExactFunAfterCardSaid : Prop := Claim7.holds Tryd.pinned (.plain (OpenSpec.ofChange fnExactFunAfterSpec)) fnExactFunAfterCard

/-- THE TIED CARD OF 'laws.FnExactFunFix'. -/
def fnExactFunFixCard : Claim7 := { stood := { row := fnExactFunFixRow, standIns := [], harness := (true, "f13ffb28068f6e7b5fba1a8c7798b233012d6f442e814885ac85c0c2f3bcad1c"), looks := false }, kinds := [], alts := [], laidByText := true, laidKinds := [.data], laidTests := true, laidLooks := .later }
def FnExactFunFixCardSaid : Prop := Claim7.holds Tryd.pinned (.plain (OpenSpec.ofChange fnExactFunFixSpec)) fnExactFunFixCard

/-- THE TIED CARD OF 'laws.FnExactFunStrict'. -/
def fnExactFunStrictCard : Claim7 := { stood := { row := fnExactFunStrictRow, standIns := [], harness := (true, "f13ffb28068f6e7b5fba1a8c7798b233012d6f442e814885ac85c0c2f3bcad1c"), looks := false }, kinds := [], alts := [], laidByText := true, laidKinds := [.data], laidTests := true, laidLooks := .later }
def FnExactFunStrictCardSaid : Prop := Claim7.holds Tryd.pinned (.plain (OpenSpec.ofChange fnExactFunStrictSpec)) fnExactFunStrictCard

/-- THE TIED CARD OF 'laws.FnExactFunBelow'. -/
def fnExactFunBelowCard : Claim7 := { stood := { row := fnExactFunBelowRow, standIns := [], harness := (true, "f13ffb28068f6e7b5fba1a8c7798b233012d6f442e814885ac85c0c2f3bcad1c"), looks := false }, kinds := [], alts := [], laidByText := true, laidKinds := [.data], laidTests := true, laidLooks := .later }
def FnExactFunBelowCardSaid : Prop := Claim7.holds Tryd.pinned (.plain (OpenSpec.ofChange fnExactFunBelowSpec)) fnExactFunBelowCard

/-- THE TIED CARD OF 'laws.FnExactFunPair'. -/
def fnExactFunPairCard : Claim7 := { stood := { row := fnExactFunPairRow, standIns := [], harness := (true, "f13ffb28068f6e7b5fba1a8c7798b233012d6f442e814885ac85c0c2f3bcad1c"), looks := false }, kinds := [], alts := [], laidByText := true, laidKinds := [.data], laidTests := true, laidLooks := .later }
def FnExactFunPairCardSaid : Prop := Claim7.holds Tryd.pinned (.plain (OpenSpec.ofChange fnExactFunPairSpec)) fnExactFunPairCard

/-- THE TIED CARD OF 'laws.FnExactFunStep'. -/
def fnExactFunStepCard : Claim7 := { stood := { row := fnExactFunStepRow, standIns := [], harness := (true, "f13ffb28068f6e7b5fba1a8c7798b233012d6f442e814885ac85c0c2f3bcad1c"), looks := false }, kinds := [], alts := [], laidByText := true, laidKinds := [.data], laidTests := true, laidLooks := .later }
def FnExactFunStepCardSaid : Prop := Claim7.holds Tryd.pinned (.plain (OpenSpec.ofChange fnExactFunStepSpec)) fnExactFunStepCard

/-- THE SECOND FORM's CARD OF 'laws.FnExactOrderCovers'. -/
def fnExactOrderCoversUptoCard : Claim7 := { stood := { row := fnExactOrderCoversUptoRow, standIns := [], harness := (true, "f13ffb28068f6e7b5fba1a8c7798b233012d6f442e814885ac85c0c2f3bcad1c"), looks := false }, kinds := [], alts := [], laidByText := true, laidKinds := [.data], laidTests := true, laidLooks := .later }
def FnExactOrderCoversUptoCardSaid : Prop := Claim7.holds Tryd.pinned (.plain (OpenSpec.upto fnExactOrderCoversSpec)) fnExactOrderCoversUptoCard

/-- THE SECOND FORM's CARD OF 'laws.FnExactOrderFrom'. -/
def fnExactOrderFromUptoCard : Claim7 := { stood := { row := fnExactOrderFromUptoRow, standIns := [], harness := (true, "f13ffb28068f6e7b5fba1a8c7798b233012d6f442e814885ac85c0c2f3bcad1c"), looks := false }, kinds := [], alts := [], laidByText := true, laidKinds := [.data], laidTests := true, laidLooks := .later }
def FnExactOrderFromUptoCardSaid : Prop := Claim7.holds Tryd.pinned (.plain (OpenSpec.upto fnExactOrderFromSpec)) fnExactOrderFromUptoCard

/-- THE SECOND FORM's CARD OF 'laws.FnHeight'. -/
def fnHeightUptoCard : Claim7 := { stood := { row := fnHeightUptoRow, standIns := [], harness := (true, "f13ffb28068f6e7b5fba1a8c7798b233012d6f442e814885ac85c0c2f3bcad1c"), looks := false }, kinds := [], alts := [], laidByText := true, laidKinds := [.data], laidTests := true, laidLooks := .later }
def FnHeightUptoCardSaid : Prop := Claim7.holds Tryd.pinned (.plain (OpenSpec.upto fnHeightSpec)) fnHeightUptoCard

/-- THE SECOND FORM's CARD OF 'laws.FnExactDomainLift'. -/
def fnExactDomainLiftUptoCard : Claim7 := { stood := { row := fnExactDomainLiftUptoRow, standIns := [], harness := (true, "f13ffb28068f6e7b5fba1a8c7798b233012d6f442e814885ac85c0c2f3bcad1c"), looks := false }, kinds := [], alts := [], laidByText := true, laidKinds := [.data], laidTests := true, laidLooks := .later }
def FnExactDomainLiftUptoCardSaid : Prop := Claim7.holds Tryd.pinned (.plain (OpenSpec.upto fnExactDomainLiftSpec)) fnExactDomainLiftUptoCard

/-- THE SECOND FORM's CARD OF 'laws.FnExactFunMonotone'. -/
def fnExactFunMonotoneUptoCard : Claim7 := { stood := { row := fnExactFunMonotoneUptoRow, standIns := [], harness := (true, "f13ffb28068f6e7b5fba1a8c7798b233012d6f442e814885ac85c0c2f3bcad1c"), looks := false }, kinds := [], alts := [], laidByText := true, laidKinds := [.data], laidTests := true, laidLooks := .later }
def FnExactFunMonotoneUptoCardSaid : Prop := Claim7.holds Tryd.pinned (.plain (OpenSpec.upto fnExactFunMonotoneSpec)) fnExactFunMonotoneUptoCard

/-- THE SECOND FORM's CARD OF 'laws.FnExactFunAfter'. -/
def fnExactFunAfterUptoCard : Claim7 := { stood := { row := fnExactFunAfterUptoRow, standIns := [], harness := (true, "f13ffb28068f6e7b5fba1a8c7798b233012d6f442e814885ac85c0c2f3bcad1c"), looks := false }, kinds := [], alts := [], laidByText := true, laidKinds := [.data], laidTests := true, laidLooks := .later }
def FnExactFunAfterUptoCardSaid : Prop := Claim7.holds Tryd.pinned (.plain (OpenSpec.upto fnExactFunAfterSpec)) fnExactFunAfterUptoCard

/-- THE SECOND FORM's CARD OF 'laws.FnExactFunFix'. -/
def fnExactFunFixUptoCard : Claim7 := { stood := { row := fnExactFunFixUptoRow, standIns := [], harness := (true, "f13ffb28068f6e7b5fba1a8c7798b233012d6f442e814885ac85c0c2f3bcad1c"), looks := false }, kinds := [], alts := [], laidByText := true, laidKinds := [.data], laidTests := true, laidLooks := .later }
def FnExactFunFixUptoCardSaid : Prop := Claim7.holds Tryd.pinned (.plain (OpenSpec.upto fnExactFunFixSpec)) fnExactFunFixUptoCard

/-- THE SECOND FORM's CARD OF 'laws.FnExactFunStrict'. -/
def fnExactFunStrictUptoCard : Claim7 := { stood := { row := fnExactFunStrictUptoRow, standIns := [], harness := (true, "f13ffb28068f6e7b5fba1a8c7798b233012d6f442e814885ac85c0c2f3bcad1c"), looks := false }, kinds := [], alts := [], laidByText := true, laidKinds := [.data], laidTests := true, laidLooks := .later }
def FnExactFunStrictUptoCardSaid : Prop := Claim7.holds Tryd.pinned (.plain (OpenSpec.upto fnExactFunStrictSpec)) fnExactFunStrictUptoCard

/-- THE SECOND FORM's CARD OF 'laws.FnExactFunBelow'. -/
def fnExactFunBelowUptoCard : Claim7 := { stood := { row := fnExactFunBelowUptoRow, standIns := [], harness := (true, "f13ffb28068f6e7b5fba1a8c7798b233012d6f442e814885ac85c0c2f3bcad1c"), looks := false }, kinds := [], alts := [], laidByText := true, laidKinds := [.data], laidTests := true, laidLooks := .later }
def FnExactFunBelowUptoCardSaid : Prop := Claim7.holds Tryd.pinned (.plain (OpenSpec.upto fnExactFunBelowSpec)) fnExactFunBelowUptoCard

/-- THE SECOND FORM's CARD OF 'laws.FnExactFunPair'. -/
def fnExactFunPairUptoCard : Claim7 := { stood := { row := fnExactFunPairUptoRow, standIns := [], harness := (true, "f13ffb28068f6e7b5fba1a8c7798b233012d6f442e814885ac85c0c2f3bcad1c"), looks := false }, kinds := [], alts := [], laidByText := true, laidKinds := [.data], laidTests := true, laidLooks := .later }
def FnExactFunPairUptoCardSaid : Prop := Claim7.holds Tryd.pinned (.plain (OpenSpec.upto fnExactFunPairSpec)) fnExactFunPairUptoCard

/-- THE SECOND FORM's CARD OF 'laws.FnExactFunStep'. -/
def fnExactFunStepUptoCard : Claim7 := { stood := { row := fnExactFunStepUptoRow, standIns := [], harness := (true, "f13ffb28068f6e7b5fba1a8c7798b233012d6f442e814885ac85c0c2f3bcad1c"), looks := false }, kinds := [], alts := [], laidByText := true, laidKinds := [.data], laidTests := true, laidLooks := .later }
def FnExactFunStepUptoCardSaid : Prop := Claim7.holds Tryd.pinned (.plain (OpenSpec.upto fnExactFunStepSpec)) fnExactFunStepUptoCard
end Rows
end Go.Proofs.YtachmaldcakgcaaDoor
