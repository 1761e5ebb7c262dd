/-
  DERIVED. GIVEN WITH THE SEED: THE CARDS: each row of YtkomghohdhengaaDoorRows.lean that lists a variable, with what it lists TIED to the program's text (the seventh form; the later family's looks); each row that meets fmt, with fmt's text TOLD by the authors' own Lean function (tested against real Go, not proved from fmt's source: count such statements apart). THE CARD IS WHAT COUNTS. Prove the row's statement (the work); the ties are given (YtkomghohdhengaaDoorTie.lean); close each card by the builder's one call (the guide's Derived/Test/ToyasCard.lean, 'card_holds'). Laid BY PROGRAM, IN A SANDBOX (cutbox-door.mjs). By AI agents, Wed Nov 11 2026. No macro, syntax, notation, axiom, sorry.
-/
import Derived.Test.YtkomghohdhengaaDoorRows
import GoSem.ClaimSeven
namespace Go.Proofs.YtkomghohdhengaaDoor
namespace Rows

/-- THE TIED CARD OF 'laws.FnFunJoin'. -/
def fnFunJoinCard : Claim7 := { stood := { row := fnFunJoinRow, standIns := [], harness := (true, "c988b747fa5d6890c951dc6c243fe0d100cf031104902c8d1126516810f7403a"), looks := false }, kinds := [], alts := [], laidByText := true, laidKinds := [.data], laidTests := true, laidLooks := .later }
def FnFunJoinCardSaid : Prop := Claim7.holds Tryd.pinned (.plain (OpenSpec.ofChange fnFunJoinSpec)) fnFunJoinCard

/-- THE TIED CARD OF 'laws.FnFunMeet'. -/
def fnFunMeetCard : Claim7 := { stood := { row := fnFunMeetRow, standIns := [], harness := (true, "c988b747fa5d6890c951dc6c243fe0d100cf031104902c8d1126516810f7403a"), looks := false }, kinds := [], alts := [], laidByText := true, laidKinds := [.data], laidTests := true, laidLooks := .later }
def FnFunMeetCardSaid : Prop := Claim7.holds Tryd.pinned (.plain (OpenSpec.ofChange fnFunMeetSpec)) fnFunMeetCard

/-- THE TIED CARD OF 'laws.FnIndex'. -/
def fnIndexCard : Claim7 := { stood := { row := fnIndexRow, standIns := [], harness := (true, "c988b747fa5d6890c951dc6c243fe0d100cf031104902c8d1126516810f7403a"), looks := false }, kinds := [], alts := [], laidByText := true, laidKinds := [.data], laidTests := true, laidLooks := .later }
def FnIndexCardSaid : Prop := Claim7.holds Tryd.pinned (.plain (OpenSpec.ofChange fnIndexSpec)) fnIndexCard

/-- THE TIED CARD OF 'laws.FnFuns'. -/
def fnFunsCard : Claim7 := { stood := { row := fnFunsRow, standIns := [], harness := (true, "c988b747fa5d6890c951dc6c243fe0d100cf031104902c8d1126516810f7403a"), looks := false }, kinds := [], alts := [], laidByText := true, laidKinds := [.data], laidTests := true, laidLooks := .later }
def FnFunsCardSaid : Prop := Claim7.holds Tryd.pinned (.plain (OpenSpec.ofChange fnFunsSpec)) fnFunsCard

/-- THE TIED CARD OF 'laws.FnFun'. -/
def fnFunCard : Claim7 := { stood := { row := fnFunRow, standIns := [], harness := (true, "c988b747fa5d6890c951dc6c243fe0d100cf031104902c8d1126516810f7403a"), looks := false }, kinds := [], alts := [], laidByText := true, laidKinds := [.data], laidTests := true, laidLooks := .later }
def FnFunCardSaid : Prop := Claim7.holds Tryd.pinned (.plain (OpenSpec.ofChange fnFunSpec)) fnFunCard

/-- THE TIED CARD OF 'laws.FnSteps'. -/
def fnStepsCard : Claim7 := { stood := { row := fnStepsRow, standIns := [], harness := (true, "c988b747fa5d6890c951dc6c243fe0d100cf031104902c8d1126516810f7403a"), looks := false }, kinds := [], alts := [], laidByText := true, laidKinds := [.data], laidTests := true, laidLooks := .later }
def FnStepsCardSaid : Prop := Claim7.holds Tryd.pinned (.plain (OpenSpec.ofChange fnStepsSpec)) fnStepsCard

/-- THE TIED CARD OF 'laws.FnFunParts'. -/
def fnFunPartsCard : Claim7 := { stood := { row := fnFunPartsRow, standIns := [], harness := (true, "c988b747fa5d6890c951dc6c243fe0d100cf031104902c8d1126516810f7403a"), looks := false }, kinds := [], alts := [], laidByText := true, laidKinds := [.data], laidTests := true, laidLooks := .later }
def FnFunPartsCardSaid : Prop := Claim7.holds Tryd.pinned (.plain (OpenSpec.ofChange fnFunPartsSpec)) fnFunPartsCard

/-- THE TIED CARD OF 'laws.FnCurry'. -/
def fnCurryCard : Claim7 := { stood := { row := fnCurryRow, standIns := [], harness := (true, "c988b747fa5d6890c951dc6c243fe0d100cf031104902c8d1126516810f7403a"), looks := false }, kinds := [], alts := [], laidByText := true, laidKinds := [.data], laidTests := true, laidLooks := .later }
def FnCurryCardSaid : Prop := Claim7.holds Tryd.pinned (.plain (OpenSpec.ofChange fnCurrySpec)) fnCurryCard

/-- THE TIED CARD OF 'laws.FnUncurry'. -/
def fnUncurryCard : Claim7 := { stood := { row := fnUncurryRow, standIns := [], harness := (true, "c988b747fa5d6890c951dc6c243fe0d100cf031104902c8d1126516810f7403a"), looks := false }, kinds := [], alts := [], laidByText := true, laidKinds := [.data], laidTests := true, laidLooks := .later }
def FnUncurryCardSaid : Prop := Claim7.holds Tryd.pinned (.plain (OpenSpec.ofChange fnUncurrySpec)) fnUncurryCard

/-- THE TIED CARD OF 'laws.FnPairIs'. -/
def fnPairIsCard : Claim7 := { stood := { row := fnPairIsRow, standIns := [], harness := (true, "c988b747fa5d6890c951dc6c243fe0d100cf031104902c8d1126516810f7403a"), looks := false }, kinds := [], alts := [], laidByText := true, laidKinds := [.data], laidTests := true, laidLooks := .later }
def FnPairIsCardSaid : Prop := Claim7.holds Tryd.pinned (.plain (OpenSpec.ofChange fnPairIsSpec)) fnPairIsCard

/-- THE TIED CARD OF 'laws.FnPairAfter'. -/
def fnPairAfterCard : Claim7 := { stood := { row := fnPairAfterRow, standIns := [], harness := (true, "c988b747fa5d6890c951dc6c243fe0d100cf031104902c8d1126516810f7403a"), looks := false }, kinds := [], alts := [], laidByText := true, laidKinds := [.data], laidTests := true, laidLooks := .later }
def FnPairAfterCardSaid : Prop := Claim7.holds Tryd.pinned (.plain (OpenSpec.ofChange fnPairAfterSpec)) fnPairAfterCard

/-- THE TIED CARD OF 'laws.FnProjection'. -/
def fnProjectionCard : Claim7 := { stood := { row := fnProjectionRow, standIns := [], harness := (true, "c988b747fa5d6890c951dc6c243fe0d100cf031104902c8d1126516810f7403a"), looks := false }, kinds := [], alts := [], laidByText := true, laidKinds := [.data], laidTests := true, laidLooks := .later }
def FnProjectionCardSaid : Prop := Claim7.holds Tryd.pinned (.plain (OpenSpec.ofChange fnProjectionSpec)) fnProjectionCard

/-- THE TIED CARD OF 'laws.FnFrom'. -/
def fnFromCard : Claim7 := { stood := { row := fnFromRow, standIns := [], harness := (true, "c988b747fa5d6890c951dc6c243fe0d100cf031104902c8d1126516810f7403a"), looks := false }, kinds := [], alts := [], laidByText := true, laidKinds := [.data], laidTests := true, laidLooks := .later }
def FnFromCardSaid : Prop := Claim7.holds Tryd.pinned (.plain (OpenSpec.ofChange fnFromSpec)) fnFromCard

/-- THE SECOND FORM's CARD OF 'laws.FnFunJoin'. -/
def fnFunJoinUptoCard : Claim7 := { stood := { row := fnFunJoinUptoRow, standIns := [], harness := (true, "c988b747fa5d6890c951dc6c243fe0d100cf031104902c8d1126516810f7403a"), looks := false }, kinds := [], alts := [], laidByText := true, laidKinds := [.data], laidTests := true, laidLooks := .later }
def FnFunJoinUptoCardSaid : Prop := Claim7.holds Tryd.pinned (.plain (OpenSpec.upto fnFunJoinSpec)) fnFunJoinUptoCard

/-- THE SECOND FORM's CARD OF 'laws.FnFunMeet'. -/
def fnFunMeetUptoCard : Claim7 := { stood := { row := fnFunMeetUptoRow, standIns := [], harness := (true, "c988b747fa5d6890c951dc6c243fe0d100cf031104902c8d1126516810f7403a"), looks := false }, kinds := [], alts := [], laidByText := true, laidKinds := [.data], laidTests := true, laidLooks := .later }
def FnFunMeetUptoCardSaid : Prop := Claim7.holds Tryd.pinned (.plain (OpenSpec.upto fnFunMeetSpec)) fnFunMeetUptoCard

/-- THE SECOND FORM's CARD OF 'laws.FnIndex'. -/
def fnIndexUptoCard : Claim7 := { stood := { row := fnIndexUptoRow, standIns := [], harness := (true, "c988b747fa5d6890c951dc6c243fe0d100cf031104902c8d1126516810f7403a"), looks := false }, kinds := [], alts := [], laidByText := true, laidKinds := [.data], laidTests := true, laidLooks := .later }
def FnIndexUptoCardSaid : Prop := Claim7.holds Tryd.pinned (.plain (OpenSpec.upto fnIndexSpec)) fnIndexUptoCard

/-- THE SECOND FORM's CARD OF 'laws.FnFuns'. -/
def fnFunsUptoCard : Claim7 := { stood := { row := fnFunsUptoRow, standIns := [], harness := (true, "c988b747fa5d6890c951dc6c243fe0d100cf031104902c8d1126516810f7403a"), looks := false }, kinds := [], alts := [], laidByText := true, laidKinds := [.data], laidTests := true, laidLooks := .later }
def FnFunsUptoCardSaid : Prop := Claim7.holds Tryd.pinned (.plain (OpenSpec.upto fnFunsSpec)) fnFunsUptoCard

/-- THE SECOND FORM's CARD OF 'laws.FnFun'. -/
def fnFunUptoCard : Claim7 := { stood := { row := fnFunUptoRow, standIns := [], harness := (true, "c988b747fa5d6890c951dc6c243fe0d100cf031104902c8d1126516810f7403a"), looks := false }, kinds := [], alts := [], laidByText := true, laidKinds := [.data], laidTests := true, laidLooks := .later }
def FnFunUptoCardSaid : Prop := Claim7.holds Tryd.pinned (.plain (OpenSpec.upto fnFunSpec)) fnFunUptoCard

/-- THE SECOND FORM's CARD OF 'laws.FnSteps'. -/
def fnStepsUptoCard : Claim7 := { stood := { row := fnStepsUptoRow, standIns := [], harness := (true, "c988b747fa5d6890c951dc6c243fe0d100cf031104902c8d1126516810f7403a"), looks := false }, kinds := [], alts := [], laidByText := true, laidKinds := [.data], laidTests := true, laidLooks := .later }
def FnStepsUptoCardSaid : Prop := Claim7.holds Tryd.pinned (.plain (OpenSpec.upto fnStepsSpec)) fnStepsUptoCard

/-- THE SECOND FORM's CARD OF 'laws.FnFunParts'. -/
def fnFunPartsUptoCard : Claim7 := { stood := { row := fnFunPartsUptoRow, standIns := [], harness := (true, "c988b747fa5d6890c951dc6c243fe0d100cf031104902c8d1126516810f7403a"), looks := false }, kinds := [], alts := [], laidByText := true, laidKinds := [.data], laidTests := true, laidLooks := .later }
def FnFunPartsUptoCardSaid : Prop := Claim7.holds Tryd.pinned (.plain (OpenSpec.upto fnFunPartsSpec)) fnFunPartsUptoCard

/-- THE SECOND FORM's CARD OF 'laws.FnCurry'. -/
def fnCurryUptoCard : Claim7 := { stood := { row := fnCurryUptoRow, standIns := [], harness := (true, "c988b747fa5d6890c951dc6c243fe0d100cf031104902c8d1126516810f7403a"), looks := false }, kinds := [], alts := [], laidByText := true, laidKinds := [.data], laidTests := true, laidLooks := .later }
def FnCurryUptoCardSaid : Prop := Claim7.holds Tryd.pinned (.plain (OpenSpec.upto fnCurrySpec)) fnCurryUptoCard

/-- THE SECOND FORM's CARD OF 'laws.FnUncurry'. -/
def fnUncurryUptoCard : Claim7 := { stood := { row := fnUncurryUptoRow, standIns := [], harness := (true, "c988b747fa5d6890c951dc6c243fe0d100cf031104902c8d1126516810f7403a"), looks := false }, kinds := [], alts := [], laidByText := true, laidKinds := [.data], laidTests := true, laidLooks := .later }
def FnUncurryUptoCardSaid : Prop := Claim7.holds Tryd.pinned (.plain (OpenSpec.upto fnUncurrySpec)) fnUncurryUptoCard

/-- THE SECOND FORM's CARD OF 'laws.FnPairIs'. -/
def fnPairIsUptoCard : Claim7 := { stood := { row := fnPairIsUptoRow, standIns := [], harness := (true, "c988b747fa5d6890c951dc6c243fe0d100cf031104902c8d1126516810f7403a"), looks := false }, kinds := [], alts := [], laidByText := true, laidKinds := [.data], laidTests := true, laidLooks := .later }
def FnPairIsUptoCardSaid : Prop := Claim7.holds Tryd.pinned (.plain (OpenSpec.upto fnPairIsSpec)) fnPairIsUptoCard

/-- THE SECOND FORM's CARD OF 'laws.FnPairAfter'. -/
def fnPairAfterUptoCard : Claim7 := { stood := { row := fnPairAfterUptoRow, standIns := [], harness := (true, "c988b747fa5d6890c951dc6c243fe0d100cf031104902c8d1126516810f7403a"), looks := false }, kinds := [], alts := [], laidByText := true, laidKinds := [.data], laidTests := true, laidLooks := .later }
def FnPairAfterUptoCardSaid : Prop := Claim7.holds Tryd.pinned (.plain (OpenSpec.upto fnPairAfterSpec)) fnPairAfterUptoCard

/-- THE SECOND FORM's CARD OF 'laws.FnProjection'. -/
def fnProjectionUptoCard : Claim7 := { stood := { row := fnProjectionUptoRow, standIns := [], harness := (true, "c988b747fa5d6890c951dc6c243fe0d100cf031104902c8d1126516810f7403a"), looks := false }, kinds := [], alts := [], laidByText := true, laidKinds := [.data], laidTests := true, laidLooks := .later }
def FnProjectionUptoCardSaid : Prop := Claim7.holds Tryd.pinned (.plain (OpenSpec.upto fnProjectionSpec)) fnProjectionUptoCard

/-- THE SECOND FORM's CARD OF 'laws.FnFrom'. -/
def fnFromUptoCard : Claim7 := { stood := { row := fnFromUptoRow, standIns := [], harness := (true, "c988b747fa5d6890c951dc6c243fe0d100cf031104902c8d1126516810f7403a"), looks := false }, kinds := [], alts := [], laidByText := true, laidKinds := [.data], laidTests := true, laidLooks := .later }
def FnFromUptoCardSaid : Prop := Claim7.holds Tryd.pinned (.plain (OpenSpec.upto fnFromSpec)) fnFromUptoCard
end Rows
end Go.Proofs.YtkomghohdhengaaDoor
