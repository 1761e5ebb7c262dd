/-
  DERIVED. GIVEN WITH THE SEED: THE CARDS: each row of YtnniffjjbekodaaDoorRows.lean that lists a variable, with what it lists TIED to the program's text (the seventh form; the later family's looks); each row that meets fmt, with fmt's text TOLD by the authors' own Lean function (tested against real Go, not proved from fmt's source: count such statements apart). THE CARD IS WHAT COUNTS. Prove the row's statement (the work); the ties are given (YtnniffjjbekodaaDoorTie.lean); close each card by the builder's one call (the guide's Derived/Test/ToyasCard.lean, 'card_holds'). Laid BY PROGRAM, IN A SANDBOX (cutbox-door.mjs). By AI agents, Wed Nov 11 2026. No macro, syntax, notation, axiom, sorry.
-/
import Derived.Test.YtnniffjjbekodaaDoorRows
import GoSem.ClaimSeven
namespace Go.Proofs.YtnniffjjbekodaaDoor
namespace Rows

/-- THE TIED CARD OF 'laws.FnExactFunMonotone'. -/
def fnExactFunMonotoneCard : Claim7 := { stood := { row := fnExactFunMonotoneRow, standIns := [], harness := (true, "69915c3e2b975e121931486881996299bf2d005ef03054b977209e327c4a9eb6"), looks := false }, kinds := [], alts := [], laidByText := true, laidKinds := [.data], laidTests := true, laidLooks := .later }
def FnExactFunMonotoneCardSaid : Prop := Claim7.holds Tryd.pinned (.plain (OpenSpec.ofChange fnExactFunMonotoneSpec)) fnExactFunMonotoneCard

/-- THE TIED CARD OF 'laws.FnExactFunAfter'. -/
def fnExactFunAfterCard : Claim7 := { stood := { row := fnExactFunAfterRow, standIns := [], harness := (true, "69915c3e2b975e121931486881996299bf2d005ef03054b977209e327c4a9eb6"), looks := false }, kinds := [], alts := [], laidByText := true, laidKinds := [.data], laidTests := true, laidLooks := .later }
def FnExactFunAfterCardSaid : Prop := Claim7.holds Tryd.pinned (.plain (OpenSpec.ofChange fnExactFunAfterSpec)) fnExactFunAfterCard

/-- THE TIED CARD OF 'laws.FnExactFunFix'. -/
def fnExactFunFixCard : Claim7 := { stood := { row := fnExactFunFixRow, standIns := [], harness := (true, "69915c3e2b975e121931486881996299bf2d005ef03054b977209e327c4a9eb6"), looks := false }, kinds := [], alts := [], laidByText := true, laidKinds := [.data], laidTests := true, laidLooks := .later }
def FnExactFunFixCardSaid : Prop := Claim7.holds Tryd.pinned (.plain (OpenSpec.ofChange fnExactFunFixSpec)) fnExactFunFixCard

/-- THE TIED CARD OF 'laws.FnExactFunStrict'. -/
def fnExactFunStrictCard : Claim7 := { stood := { row := fnExactFunStrictRow, standIns := [], harness := (true, "69915c3e2b975e121931486881996299bf2d005ef03054b977209e327c4a9eb6"), looks := false }, kinds := [], alts := [], laidByText := true, laidKinds := [.data], laidTests := true, laidLooks := .later }
def FnExactFunStrictCardSaid : Prop := Claim7.holds Tryd.pinned (.plain (OpenSpec.ofChange fnExactFunStrictSpec)) fnExactFunStrictCard

/-- THE TIED CARD OF 'laws.FnExactFunBelow'. -/
def fnExactFunBelowCard : Claim7 := { stood := { row := fnExactFunBelowRow, standIns := [], harness := (true, "69915c3e2b975e121931486881996299bf2d005ef03054b977209e327c4a9eb6"), looks := false }, kinds := [], alts := [], laidByText := true, laidKinds := [.data], laidTests := true, laidLooks := .later }
def FnExactFunBelowCardSaid : Prop := Claim7.holds Tryd.pinned (.plain (OpenSpec.ofChange fnExactFunBelowSpec)) fnExactFunBelowCard

/-- THE TIED CARD OF 'laws.FnExactFunPair'. -/
def fnExactFunPairCard : Claim7 := { stood := { row := fnExactFunPairRow, standIns := [], harness := (true, "69915c3e2b975e121931486881996299bf2d005ef03054b977209e327c4a9eb6"), looks := false }, kinds := [], alts := [], laidByText := true, laidKinds := [.data], laidTests := true, laidLooks := .later }
def FnExactFunPairCardSaid : Prop := Claim7.holds Tryd.pinned (.plain (OpenSpec.ofChange fnExactFunPairSpec)) fnExactFunPairCard

/-- THE TIED CARD OF 'laws.FnExactFunStep'. -/
def fnExactFunStepCard : Claim7 := { stood := { row := fnExactFunStepRow, standIns := [], harness := (true, "69915c3e2b975e121931486881996299bf2d005ef03054b977209e327c4a9eb6"), looks := false }, kinds := [], alts := [], laidByText := true, laidKinds := [.data], laidTests := true, laidLooks := .later }
def FnExactFunStepCardSaid : Prop := Claim7.holds Tryd.pinned (.plain (OpenSpec.ofChange fnExactFunStepSpec)) fnExactFunStepCard

/-- THE TIED CARD OF 'laws.FnExactFunMeet'. -/
def fnExactFunMeetCard : Claim7 := { stood := { row := fnExactFunMeetRow, standIns := [], harness := (true, "69915c3e2b975e121931486881996299bf2d005ef03054b977209e327c4a9eb6"), looks := false }, kinds := [], alts := [], laidByText := true, laidKinds := [.data], laidTests := true, laidLooks := .later }
def FnExactFunMeetCardSaid : Prop := Claim7.holds Tryd.pinned (.plain (OpenSpec.ofChange fnExactFunMeetSpec)) fnExactFunMeetCard

/-- THE TIED CARD OF 'laws.FnExactFunJoin'. -/
def fnExactFunJoinCard : Claim7 := { stood := { row := fnExactFunJoinRow, standIns := [], harness := (true, "69915c3e2b975e121931486881996299bf2d005ef03054b977209e327c4a9eb6"), looks := false }, kinds := [], alts := [], laidByText := true, laidKinds := [.data], laidTests := true, laidLooks := .later }
def FnExactFunJoinCardSaid : Prop := Claim7.holds Tryd.pinned (.plain (OpenSpec.ofChange fnExactFunJoinSpec)) fnExactFunJoinCard

/-- THE TIED CARD OF 'laws.FnExactDomainLift'. -/
def fnExactDomainLiftCard : Claim7 := { stood := { row := fnExactDomainLiftRow, standIns := [], harness := (true, "69915c3e2b975e121931486881996299bf2d005ef03054b977209e327c4a9eb6"), looks := false }, kinds := [], alts := [], laidByText := true, laidKinds := [.data], laidTests := true, laidLooks := .later }
def FnExactDomainLiftCardSaid : Prop := Claim7.holds Tryd.pinned (.plain (OpenSpec.ofChange fnExactDomainLiftSpec)) fnExactDomainLiftCard

/-- THE TIED CARD OF 'laws.FnExactDomainProduct'. -/
def fnExactDomainProductCard : Claim7 := { stood := { row := fnExactDomainProductRow, standIns := [], harness := (true, "69915c3e2b975e121931486881996299bf2d005ef03054b977209e327c4a9eb6"), looks := false }, kinds := [], alts := [], laidByText := true, laidKinds := [.data], laidTests := true, laidLooks := .later }
def FnExactDomainProductCardSaid : Prop := Claim7.holds Tryd.pinned (.plain (OpenSpec.ofChange fnExactDomainProductSpec)) fnExactDomainProductCard

/-- THE TIED CARD OF 'laws.FnExactDomainSum'. -/
def fnExactDomainSumCard : Claim7 := { stood := { row := fnExactDomainSumRow, standIns := [], harness := (true, "69915c3e2b975e121931486881996299bf2d005ef03054b977209e327c4a9eb6"), looks := false }, kinds := [], alts := [], laidByText := true, laidKinds := [.data], laidTests := true, laidLooks := .later }
def FnExactDomainSumCardSaid : Prop := Claim7.holds Tryd.pinned (.plain (OpenSpec.ofChange fnExactDomainSumSpec)) fnExactDomainSumCard

/-- THE TIED CARD OF 'laws.FnExactFunParts'. -/
def fnExactFunPartsCard : Claim7 := { stood := { row := fnExactFunPartsRow, standIns := [], harness := (true, "69915c3e2b975e121931486881996299bf2d005ef03054b977209e327c4a9eb6"), looks := false }, kinds := [], alts := [], laidByText := true, laidKinds := [.data], laidTests := true, laidLooks := .later }
def FnExactFunPartsCardSaid : Prop := Claim7.holds Tryd.pinned (.plain (OpenSpec.ofChange fnExactFunPartsSpec)) fnExactFunPartsCard

/-- THE SECOND FORM's CARD OF 'laws.FnExactFunMonotone'. -/
def fnExactFunMonotoneUptoCard : Claim7 := { stood := { row := fnExactFunMonotoneUptoRow, standIns := [], harness := (true, "69915c3e2b975e121931486881996299bf2d005ef03054b977209e327c4a9eb6"), looks := false }, kinds := [], alts := [], laidByText := true, laidKinds := [.data], laidTests := true, laidLooks := .later }
def FnExactFunMonotoneUptoCardSaid : Prop := Claim7.holds Tryd.pinned (.plain (OpenSpec.upto fnExactFunMonotoneSpec)) fnExactFunMonotoneUptoCard

/-- THE SECOND FORM's CARD OF 'laws.FnExactFunAfter'. -/
def fnExactFunAfterUptoCard : Claim7 := { stood := { row := fnExactFunAfterUptoRow, standIns := [], harness := (true, "69915c3e2b975e121931486881996299bf2d005ef03054b977209e327c4a9eb6"), looks := false }, kinds := [], alts := [], laidByText := true, laidKinds := [.data], laidTests := true, laidLooks := .later }
def FnExactFunAfterUptoCardSaid : Prop := Claim7.holds Tryd.pinned (.plain (OpenSpec.upto fnExactFunAfterSpec)) fnExactFunAfterUptoCard

/-- THE SECOND FORM's CARD OF 'laws.FnExactFunFix'. -/
def fnExactFunFixUptoCard : Claim7 := { stood := { row := fnExactFunFixUptoRow, standIns := [], harness := (true, "69915c3e2b975e121931486881996299bf2d005ef03054b977209e327c4a9eb6"), looks := false }, kinds := [], alts := [], laidByText := true, laidKinds := [.data], laidTests := true, laidLooks := .later }
def FnExactFunFixUptoCardSaid : Prop := Claim7.holds Tryd.pinned (.plain (OpenSpec.upto fnExactFunFixSpec)) fnExactFunFixUptoCard

/-- THE SECOND FORM's CARD OF 'laws.FnExactFunStrict'. -/
def fnExactFunStrictUptoCard : Claim7 := { stood := { row := fnExactFunStrictUptoRow, standIns := [], harness := (true, "69915c3e2b975e121931486881996299bf2d005ef03054b977209e327c4a9eb6"), looks := false }, kinds := [], alts := [], laidByText := true, laidKinds := [.data], laidTests := true, laidLooks := .later }
def FnExactFunStrictUptoCardSaid : Prop := Claim7.holds Tryd.pinned (.plain (OpenSpec.upto fnExactFunStrictSpec)) fnExactFunStrictUptoCard

/-- THE SECOND FORM's CARD OF 'laws.FnExactFunBelow'. -/
def fnExactFunBelowUptoCard : Claim7 := { stood := { row := fnExactFunBelowUptoRow, standIns := [], harness := (true, "69915c3e2b975e121931486881996299bf2d005ef03054b977209e327c4a9eb6"), looks := false }, kinds := [], alts := [], laidByText := true, laidKinds := [.data], laidTests := true, laidLooks := .later }
def FnExactFunBelowUptoCardSaid : Prop := Claim7.holds Tryd.pinned (.plain (OpenSpec.upto fnExactFunBelowSpec)) fnExactFunBelowUptoCard

/-- THE SECOND FORM's CARD OF 'laws.FnExactFunPair'. -/
def fnExactFunPairUptoCard : Claim7 := { stood := { row := fnExactFunPairUptoRow, standIns := [], harness := (true, "69915c3e2b975e121931486881996299bf2d005ef03054b977209e327c4a9eb6"), looks := false }, kinds := [], alts := [], laidByText := true, laidKinds := [.data], laidTests := true, laidLooks := .later }
def FnExactFunPairUptoCardSaid : Prop := Claim7.holds Tryd.pinned (.plain (OpenSpec.upto fnExactFunPairSpec)) fnExactFunPairUptoCard

/-- THE SECOND FORM's CARD OF 'laws.FnExactFunStep'. -/
def fnExactFunStepUptoCard : Claim7 := { stood := { row := fnExactFunStepUptoRow, standIns := [], harness := (true, "69915c3e2b975e121931486881996299bf2d005ef03054b977209e327c4a9eb6"), looks := false }, kinds := [], alts := [], laidByText := true, laidKinds := [.data], laidTests := true, laidLooks := .later }
def FnExactFunStepUptoCardSaid : Prop := Claim7.holds Tryd.pinned (.plain (OpenSpec.upto fnExactFunStepSpec)) fnExactFunStepUptoCard

/-- THE SECOND FORM's CARD OF 'laws.FnExactFunMeet'. -/
def fnExactFunMeetUptoCard : Claim7 := { stood := { row := fnExactFunMeetUptoRow, standIns := [], harness := (true, "69915c3e2b975e121931486881996299bf2d005ef03054b977209e327c4a9eb6"), looks := false }, kinds := [], alts := [], laidByText := true, laidKinds := [.data], laidTests := true, laidLooks := .later }
def FnExactFunMeetUptoCardSaid : Prop := Claim7.holds Tryd.pinned (.plain (OpenSpec.upto fnExactFunMeetSpec)) fnExactFunMeetUptoCard

/-- THE SECOND FORM's CARD OF 'laws.FnExactFunJoin'. -/
def fnExactFunJoinUptoCard : Claim7 := { stood := { row := fnExactFunJoinUptoRow, standIns := [], harness := (true, "69915c3e2b975e121931486881996299bf2d005ef03054b977209e327c4a9eb6"), looks := false }, kinds := [], alts := [], laidByText := true, laidKinds := [.data], laidTests := true, laidLooks := .later }
def FnExactFunJoinUptoCardSaid : Prop := Claim7.holds Tryd.pinned (.plain (OpenSpec.upto fnExactFunJoinSpec)) fnExactFunJoinUptoCard

/-- THE SECOND FORM's CARD OF 'laws.FnExactDomainLift'. -/
def fnExactDomainLiftUptoCard : Claim7 := { stood := { row := fnExactDomainLiftUptoRow, standIns := [], harness := (true, "69915c3e2b975e121931486881996299bf2d005ef03054b977209e327c4a9eb6"), looks := false }, kinds := [], alts := [], laidByText := true, laidKinds := [.data], laidTests := true, laidLooks := .later }
def FnExactDomainLiftUptoCardSaid : Prop := Claim7.holds Tryd.pinned (.plain (OpenSpec.upto fnExactDomainLiftSpec)) fnExactDomainLiftUptoCard

/-- THE SECOND FORM's CARD OF 'laws.FnExactDomainProduct'. -/
def fnExactDomainProductUptoCard : Claim7 := { stood := { row := fnExactDomainProductUptoRow, standIns := [], harness := (true, "69915c3e2b975e121931486881996299bf2d005ef03054b977209e327c4a9eb6"), looks := false }, kinds := [], alts := [], laidByText := true, laidKinds := [.data], laidTests := true, laidLooks := .later }
def FnExactDomainProductUptoCardSaid : Prop := Claim7.holds Tryd.pinned (.plain (OpenSpec.upto fnExactDomainProductSpec)) fnExactDomainProductUptoCard

/-- THE SECOND FORM's CARD OF 'laws.FnExactDomainSum'. -/
def fnExactDomainSumUptoCard : Claim7 := { stood := { row := fnExactDomainSumUptoRow, standIns := [], harness := (true, "69915c3e2b975e121931486881996299bf2d005ef03054b977209e327c4a9eb6"), looks := false }, kinds := [], alts := [], laidByText := true, laidKinds := [.data], laidTests := true, laidLooks := .later }
def FnExactDomainSumUptoCardSaid : Prop := Claim7.holds Tryd.pinned (.plain (OpenSpec.upto fnExactDomainSumSpec)) fnExactDomainSumUptoCard

/-- THE SECOND FORM's CARD OF 'laws.FnExactFunParts'. -/
def fnExactFunPartsUptoCard : Claim7 := { stood := { row := fnExactFunPartsUptoRow, standIns := [], harness := (true, "69915c3e2b975e121931486881996299bf2d005ef03054b977209e327c4a9eb6"), looks := false }, kinds := [], alts := [], laidByText := true, laidKinds := [.data], laidTests := true, laidLooks := .later }
def FnExactFunPartsUptoCardSaid : Prop := Claim7.holds Tryd.pinned (.plain (OpenSpec.upto fnExactFunPartsSpec)) fnExactFunPartsUptoCard
end Rows
end Go.Proofs.YtnniffjjbekodaaDoor
