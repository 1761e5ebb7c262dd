/-
  DERIVED. GIVEN WITH THE SEED: THE CARDS: each row of YtjfbjfclcpcaiaaDoorRows.lean that lists a variable, with what it lists TIED to the program's text (the seventh form; the later family's looks); each row that meets fmt, with fmt's text TOLD by the authors' own Lean function (tested against real Go, not proved from fmt's source: count such statements apart). THE CARD IS WHAT COUNTS. Prove the row's statement (the work); the ties are given (YtjfbjfclcpcaiaaDoorTie.lean); close each card by the builder's one call (the guide's Derived/Test/ToyasCard.lean, 'card_holds'). Laid BY PROGRAM, IN A SANDBOX (cutbox-door.mjs). By AI agents, Wed Nov 11 2026. No macro, syntax, notation, axiom, sorry.
-/
import Derived.Test.YtjfbjfclcpcaiaaDoorRows
import GoSem.ClaimSeven
namespace Go.Proofs.YtjfbjfclcpcaiaaDoor
namespace Rows

/-- THE TIED CARD OF 'laws.FnLift'. -/
def fnLiftCard : Claim7 := { stood := { row := fnLiftRow, standIns := [], harness := (true, "0b19ebcc98b821d079fb7e4cbcb4ee8442b84ba3695e8a88953bb678c184a0c0"), looks := false }, kinds := [], alts := [], laidByText := true, laidKinds := [.data], laidTests := true, laidLooks := .later }
def FnLiftCardSaid : Prop := Claim7.holds Tryd.pinned (.plain (OpenSpec.ofChange fnLiftSpec)) fnLiftCard

/-- THE TIED CARD OF 'laws.FnProduct'. -/
def fnProductCard : Claim7 := { stood := { row := fnProductRow, standIns := [], harness := (true, "0b19ebcc98b821d079fb7e4cbcb4ee8442b84ba3695e8a88953bb678c184a0c0"), looks := false }, kinds := [], alts := [], laidByText := true, laidKinds := [.data], laidTests := true, laidLooks := .later }
def FnProductCardSaid : Prop := Claim7.holds Tryd.pinned (.plain (OpenSpec.ofChange fnProductSpec)) fnProductCard

/-- THE TIED CARD OF 'laws.FnSum'. -/
def fnSumCard : Claim7 := { stood := { row := fnSumRow, standIns := [], harness := (true, "0b19ebcc98b821d079fb7e4cbcb4ee8442b84ba3695e8a88953bb678c184a0c0"), looks := false }, kinds := [], alts := [], laidByText := true, laidKinds := [.data], laidTests := true, laidLooks := .later }
def FnSumCardSaid : Prop := Claim7.holds Tryd.pinned (.plain (OpenSpec.ofChange fnSumSpec)) fnSumCard

/-- THE TIED CARD OF 'laws.FnCut'. -/
def fnCutCard : Claim7 := { stood := { row := fnCutRow, standIns := [], harness := (true, "0b19ebcc98b821d079fb7e4cbcb4ee8442b84ba3695e8a88953bb678c184a0c0"), looks := false }, kinds := [], alts := [], laidByText := true, laidKinds := [.data], laidTests := true, laidLooks := .later }
def FnCutCardSaid : Prop := Claim7.holds Tryd.pinned (.plain (OpenSpec.ofChange fnCutSpec)) fnCutCard

/-- THE TIED CARD OF 'laws.FnMonotone'. -/
def fnMonotoneCard : Claim7 := { stood := { row := fnMonotoneRow, standIns := [], harness := (true, "0b19ebcc98b821d079fb7e4cbcb4ee8442b84ba3695e8a88953bb678c184a0c0"), looks := false }, kinds := [], alts := [], laidByText := true, laidKinds := [.data], laidTests := true, laidLooks := .later }
def FnMonotoneCardSaid : Prop := Claim7.holds Tryd.pinned (.plain (OpenSpec.ofChange fnMonotoneSpec)) fnMonotoneCard

/-- THE TIED CARD OF 'laws.FnAfter'. -/
def fnAfterCard : Claim7 := { stood := { row := fnAfterRow, standIns := [], harness := (true, "0b19ebcc98b821d079fb7e4cbcb4ee8442b84ba3695e8a88953bb678c184a0c0"), looks := false }, kinds := [], alts := [], laidByText := true, laidKinds := [.data], laidTests := true, laidLooks := .later }
def FnAfterCardSaid : Prop := Claim7.holds Tryd.pinned (.plain (OpenSpec.ofChange fnAfterSpec)) fnAfterCard

/-- THE TIED CARD OF 'laws.FnFix'. -/
def fnFixCard : Claim7 := { stood := { row := fnFixRow, standIns := [], harness := (true, "0b19ebcc98b821d079fb7e4cbcb4ee8442b84ba3695e8a88953bb678c184a0c0"), looks := false }, kinds := [], alts := [], laidByText := true, laidKinds := [.data], laidTests := true, laidLooks := .later }
def FnFixCardSaid : Prop := Claim7.holds Tryd.pinned (.plain (OpenSpec.ofChange fnFixSpec)) fnFixCard

/-- THE TIED CARD OF 'laws.FnStrict'. -/
def fnStrictCard : Claim7 := { stood := { row := fnStrictRow, standIns := [], harness := (true, "0b19ebcc98b821d079fb7e4cbcb4ee8442b84ba3695e8a88953bb678c184a0c0"), looks := false }, kinds := [], alts := [], laidByText := true, laidKinds := [.data], laidTests := true, laidLooks := .later }
def FnStrictCardSaid : Prop := Claim7.holds Tryd.pinned (.plain (OpenSpec.ofChange fnStrictSpec)) fnStrictCard

/-- THE TIED CARD OF 'laws.FnStable'. -/
def fnStableCard : Claim7 := { stood := { row := fnStableRow, standIns := [], harness := (true, "0b19ebcc98b821d079fb7e4cbcb4ee8442b84ba3695e8a88953bb678c184a0c0"), looks := false }, kinds := [], alts := [], laidByText := true, laidKinds := [.data], laidTests := true, laidLooks := .later }
def FnStableCardSaid : Prop := Claim7.holds Tryd.pinned (.plain (OpenSpec.ofChange fnStableSpec)) fnStableCard

/-- THE TIED CARD OF 'laws.FnFunPair'. -/
def fnFunPairCard : Claim7 := { stood := { row := fnFunPairRow, standIns := [], harness := (true, "0b19ebcc98b821d079fb7e4cbcb4ee8442b84ba3695e8a88953bb678c184a0c0"), looks := false }, kinds := [], alts := [], laidByText := true, laidKinds := [.data], laidTests := true, laidLooks := .later }
def FnFunPairCardSaid : Prop := Claim7.holds Tryd.pinned (.plain (OpenSpec.ofChange fnFunPairSpec)) fnFunPairCard

/-- THE TIED CARD OF 'laws.FnStep'. -/
def fnStepCard : Claim7 := { stood := { row := fnStepRow, standIns := [], harness := (true, "0b19ebcc98b821d079fb7e4cbcb4ee8442b84ba3695e8a88953bb678c184a0c0"), looks := false }, kinds := [], alts := [], laidByText := true, laidKinds := [.data], laidTests := true, laidLooks := .later }
def FnStepCardSaid : Prop := Claim7.holds Tryd.pinned (.plain (OpenSpec.ofChange fnStepSpec)) fnStepCard

/-- THE TIED CARD OF 'laws.FnFunBelow'. -/
def fnFunBelowCard : Claim7 := { stood := { row := fnFunBelowRow, standIns := [], harness := (true, "0b19ebcc98b821d079fb7e4cbcb4ee8442b84ba3695e8a88953bb678c184a0c0"), looks := false }, kinds := [], alts := [], laidByText := true, laidKinds := [.data], laidTests := true, laidLooks := .later }
def FnFunBelowCardSaid : Prop := Claim7.holds Tryd.pinned (.plain (OpenSpec.ofChange fnFunBelowSpec)) fnFunBelowCard

/-- THE TIED CARD OF 'laws.FnFrom'. -/
def fnFromCard : Claim7 := { stood := { row := fnFromRow, standIns := [], harness := (true, "0b19ebcc98b821d079fb7e4cbcb4ee8442b84ba3695e8a88953bb678c184a0c0"), looks := false }, kinds := [], alts := [], laidByText := true, laidKinds := [.data], laidTests := true, laidLooks := .later }
def FnFromCardSaid : Prop := Claim7.holds Tryd.pinned (.plain (OpenSpec.ofChange fnFromSpec)) fnFromCard

/-- THE SECOND FORM's CARD OF 'laws.FnLift'. -/
def fnLiftUptoCard : Claim7 := { stood := { row := fnLiftUptoRow, standIns := [], harness := (true, "0b19ebcc98b821d079fb7e4cbcb4ee8442b84ba3695e8a88953bb678c184a0c0"), looks := false }, kinds := [], alts := [], laidByText := true, laidKinds := [.data], laidTests := true, laidLooks := .later }
def FnLiftUptoCardSaid : Prop := Claim7.holds Tryd.pinned (.plain (OpenSpec.upto fnLiftSpec)) fnLiftUptoCard

/-- THE SECOND FORM's CARD OF 'laws.FnProduct'. -/
def fnProductUptoCard : Claim7 := { stood := { row := fnProductUptoRow, standIns := [], harness := (true, "0b19ebcc98b821d079fb7e4cbcb4ee8442b84ba3695e8a88953bb678c184a0c0"), looks := false }, kinds := [], alts := [], laidByText := true, laidKinds := [.data], laidTests := true, laidLooks := .later }
def FnProductUptoCardSaid : Prop := Claim7.holds Tryd.pinned (.plain (OpenSpec.upto fnProductSpec)) fnProductUptoCard

/-- THE SECOND FORM's CARD OF 'laws.FnSum'. -/
def fnSumUptoCard : Claim7 := { stood := { row := fnSumUptoRow, standIns := [], harness := (true, "0b19ebcc98b821d079fb7e4cbcb4ee8442b84ba3695e8a88953bb678c184a0c0"), looks := false }, kinds := [], alts := [], laidByText := true, laidKinds := [.data], laidTests := true, laidLooks := .later }
def FnSumUptoCardSaid : Prop := Claim7.holds Tryd.pinned (.plain (OpenSpec.upto fnSumSpec)) fnSumUptoCard

/-- THE SECOND FORM's CARD OF 'laws.FnCut'. -/
def fnCutUptoCard : Claim7 := { stood := { row := fnCutUptoRow, standIns := [], harness := (true, "0b19ebcc98b821d079fb7e4cbcb4ee8442b84ba3695e8a88953bb678c184a0c0"), looks := false }, kinds := [], alts := [], laidByText := true, laidKinds := [.data], laidTests := true, laidLooks := .later }
def FnCutUptoCardSaid : Prop := Claim7.holds Tryd.pinned (.plain (OpenSpec.upto fnCutSpec)) fnCutUptoCard

/-- THE SECOND FORM's CARD OF 'laws.FnMonotone'. -/
def fnMonotoneUptoCard : Claim7 := { stood := { row := fnMonotoneUptoRow, standIns := [], harness := (true, "0b19ebcc98b821d079fb7e4cbcb4ee8442b84ba3695e8a88953bb678c184a0c0"), looks := false }, kinds := [], alts := [], laidByText := true, laidKinds := [.data], laidTests := true, laidLooks := .later }
def FnMonotoneUptoCardSaid : Prop := Claim7.holds Tryd.pinned (.plain (OpenSpec.upto fnMonotoneSpec)) fnMonotoneUptoCard

/-- THE SECOND FORM's CARD OF 'laws.FnAfter'. -/
def fnAfterUptoCard : Claim7 := { stood := { row := fnAfterUptoRow, standIns := [], harness := (true, "0b19ebcc98b821d079fb7e4cbcb4ee8442b84ba3695e8a88953bb678c184a0c0"), looks := false }, kinds := [], alts := [], laidByText := true, laidKinds := [.data], laidTests := true, laidLooks := .later }
def FnAfterUptoCardSaid : Prop := Claim7.holds Tryd.pinned (.plain (OpenSpec.upto fnAfterSpec)) fnAfterUptoCard

/-- THE SECOND FORM's CARD OF 'laws.FnFix'. -/
def fnFixUptoCard : Claim7 := { stood := { row := fnFixUptoRow, standIns := [], harness := (true, "0b19ebcc98b821d079fb7e4cbcb4ee8442b84ba3695e8a88953bb678c184a0c0"), looks := false }, kinds := [], alts := [], laidByText := true, laidKinds := [.data], laidTests := true, laidLooks := .later }
def FnFixUptoCardSaid : Prop := Claim7.holds Tryd.pinned (.plain (OpenSpec.upto fnFixSpec)) fnFixUptoCard

/-- THE SECOND FORM's CARD OF 'laws.FnStrict'. -/
def fnStrictUptoCard : Claim7 := { stood := { row := fnStrictUptoRow, standIns := [], harness := (true, "0b19ebcc98b821d079fb7e4cbcb4ee8442b84ba3695e8a88953bb678c184a0c0"), looks := false }, kinds := [], alts := [], laidByText := true, laidKinds := [.data], laidTests := true, laidLooks := .later }
def FnStrictUptoCardSaid : Prop := Claim7.holds Tryd.pinned (.plain (OpenSpec.upto fnStrictSpec)) fnStrictUptoCard

/-- THE SECOND FORM's CARD OF 'laws.FnStable'. -/
def fnStableUptoCard : Claim7 := { stood := { row := fnStableUptoRow, standIns := [], harness := (true, "0b19ebcc98b821d079fb7e4cbcb4ee8442b84ba3695e8a88953bb678c184a0c0"), looks := false }, kinds := [], alts := [], laidByText := true, laidKinds := [.data], laidTests := true, laidLooks := .later }
def FnStableUptoCardSaid : Prop := Claim7.holds Tryd.pinned (.plain (OpenSpec.upto fnStableSpec)) fnStableUptoCard

/-- THE SECOND FORM's CARD OF 'laws.FnFunPair'. -/
def fnFunPairUptoCard : Claim7 := { stood := { row := fnFunPairUptoRow, standIns := [], harness := (true, "0b19ebcc98b821d079fb7e4cbcb4ee8442b84ba3695e8a88953bb678c184a0c0"), looks := false }, kinds := [], alts := [], laidByText := true, laidKinds := [.data], laidTests := true, laidLooks := .later }
def FnFunPairUptoCardSaid : Prop := Claim7.holds Tryd.pinned (.plain (OpenSpec.upto fnFunPairSpec)) fnFunPairUptoCard

/-- THE SECOND FORM's CARD OF 'laws.FnStep'. -/
def fnStepUptoCard : Claim7 := { stood := { row := fnStepUptoRow, standIns := [], harness := (true, "0b19ebcc98b821d079fb7e4cbcb4ee8442b84ba3695e8a88953bb678c184a0c0"), looks := false }, kinds := [], alts := [], laidByText := true, laidKinds := [.data], laidTests := true, laidLooks := .later }
def FnStepUptoCardSaid : Prop := Claim7.holds Tryd.pinned (.plain (OpenSpec.upto fnStepSpec)) fnStepUptoCard

/-- THE SECOND FORM's CARD OF 'laws.FnFunBelow'. -/
def fnFunBelowUptoCard : Claim7 := { stood := { row := fnFunBelowUptoRow, standIns := [], harness := (true, "0b19ebcc98b821d079fb7e4cbcb4ee8442b84ba3695e8a88953bb678c184a0c0"), looks := false }, kinds := [], alts := [], laidByText := true, laidKinds := [.data], laidTests := true, laidLooks := .later }
def FnFunBelowUptoCardSaid : Prop := Claim7.holds Tryd.pinned (.plain (OpenSpec.upto fnFunBelowSpec)) fnFunBelowUptoCard

/-- THE SECOND FORM's CARD OF 'laws.FnFrom'. -/
def fnFromUptoCard : Claim7 := { stood := { row := fnFromUptoRow, standIns := [], harness := (true, "0b19ebcc98b821d079fb7e4cbcb4ee8442b84ba3695e8a88953bb678c184a0c0"), looks := false }, kinds := [], alts := [], laidByText := true, laidKinds := [.data], laidTests := true, laidLooks := .later }
def FnFromUptoCardSaid : Prop := Claim7.holds Tryd.pinned (.plain (OpenSpec.upto fnFromSpec)) fnFromUptoCard
end Rows
end Go.Proofs.YtjfbjfclcpcaiaaDoor
