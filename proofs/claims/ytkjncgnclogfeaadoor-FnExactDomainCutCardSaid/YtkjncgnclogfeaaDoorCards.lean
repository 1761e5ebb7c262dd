/-
  DERIVED. GIVEN WITH THE SEED: THE CARDS: each row of YtkjncgnclogfeaaDoorRows.lean that lists a variable, with what it lists TIED to the program's text (the seventh form; the later family's looks); each row that meets fmt, with fmt's text TOLD by the authors' own Lean function (tested against real Go, not proved from fmt's source: count such statements apart). THE CARD IS WHAT COUNTS. Prove the row's statement (the work); the ties are given (YtkjncgnclogfeaaDoorTie.lean); close each card by the builder's one call (the guide's Derived/Test/ToyasCard.lean, 'card_holds'). Laid BY PROGRAM, IN A SANDBOX (cutbox-door.mjs). By AI agents, Wed Nov 11 2026. No macro, syntax, notation, axiom, sorry.
-/
import Derived.Test.YtkjncgnclogfeaaDoorRows
import GoSem.ClaimSeven
namespace Go.Proofs.YtkjncgnclogfeaaDoor
namespace Rows

/-- THE TIED CARD OF 'laws.FnExactDomainLift'. -/
def fnExactDomainLiftCard : Claim7 := { stood := { row := fnExactDomainLiftRow, standIns := [], harness := (true, "4d21ef769d709ae6853af3a4363b749d323d726a3ba9a21d498c0aa4380e052e"), looks := false }, kinds := [], alts := [], laidByText := true, laidKinds := [.data], laidTests := true, laidLooks := .later }
def FnExactDomainLiftCardSaid : Prop := Claim7.holds Tryd.pinned (.plain (OpenSpec.ofChange fnExactDomainLiftSpec)) fnExactDomainLiftCard

/-- THE TIED CARD OF 'laws.FnExactDomainProduct'. -/
def fnExactDomainProductCard : Claim7 := { stood := { row := fnExactDomainProductRow, standIns := [], harness := (true, "4d21ef769d709ae6853af3a4363b749d323d726a3ba9a21d498c0aa4380e052e"), looks := false }, kinds := [], alts := [], laidByText := true, laidKinds := [.data], laidTests := true, laidLooks := .later }
def FnExactDomainProductCardSaid : Prop := Claim7.holds Tryd.pinned (.plain (OpenSpec.ofChange fnExactDomainProductSpec)) fnExactDomainProductCard

/-- THE TIED CARD OF 'laws.FnExactDomainSum'. -/
def fnExactDomainSumCard : Claim7 := { stood := { row := fnExactDomainSumRow, standIns := [], harness := (true, "4d21ef769d709ae6853af3a4363b749d323d726a3ba9a21d498c0aa4380e052e"), looks := false }, kinds := [], alts := [], laidByText := true, laidKinds := [.data], laidTests := true, laidLooks := .later }
def FnExactDomainSumCardSaid : Prop := Claim7.holds Tryd.pinned (.plain (OpenSpec.ofChange fnExactDomainSumSpec)) fnExactDomainSumCard

/-- THE TIED CARD OF 'laws.FnExactDomainFun'. -/
def fnExactDomainFunCard : Claim7 := { stood := { row := fnExactDomainFunRow, standIns := [], harness := (true, "4d21ef769d709ae6853af3a4363b749d323d726a3ba9a21d498c0aa4380e052e"), looks := false }, kinds := [], alts := [], laidByText := true, laidKinds := [.data], laidTests := true, laidLooks := .later }
def FnExactDomainFunCardSaid : Prop := Claim7.holds Tryd.pinned (.plain (OpenSpec.ofChange fnExactDomainFunSpec)) fnExactDomainFunCard

/-- THE TIED CARD OF 'laws.FnExactDomainFuns'. -/
def fnExactDomainFunsCard : Claim7 := { stood := { row := fnExactDomainFunsRow, standIns := [], harness := (true, "4d21ef769d709ae6853af3a4363b749d323d726a3ba9a21d498c0aa4380e052e"), looks := false }, kinds := [], alts := [], laidByText := true, laidKinds := [.data], laidTests := true, laidLooks := .later }
def FnExactDomainFunsCardSaid : Prop := Claim7.holds Tryd.pinned (.plain (OpenSpec.ofChange fnExactDomainFunsSpec)) fnExactDomainFunsCard

/-- THE TIED CARD OF 'laws.FnExactDomainIndex'. -/
def fnExactDomainIndexCard : Claim7 := { stood := { row := fnExactDomainIndexRow, standIns := [], harness := (true, "4d21ef769d709ae6853af3a4363b749d323d726a3ba9a21d498c0aa4380e052e"), looks := false }, kinds := [], alts := [], laidByText := true, laidKinds := [.data], laidTests := true, laidLooks := .later }
def FnExactDomainIndexCardSaid : Prop := Claim7.holds Tryd.pinned (.plain (OpenSpec.ofChange fnExactDomainIndexSpec)) fnExactDomainIndexCard

/-- THE TIED CARD OF 'laws.FnExactDomainCut'. -/
def fnExactDomainCutCard : Claim7 := { stood := { row := fnExactDomainCutRow, standIns := [], harness := (true, "4d21ef769d709ae6853af3a4363b749d323d726a3ba9a21d498c0aa4380e052e"), looks := false }, kinds := [], alts := [], laidByText := true, laidKinds := [.data], laidTests := true, laidLooks := .later }
def FnExactDomainCutCardSaid : Prop := Claim7.holds Tryd.pinned (.plain (OpenSpec.ofChange fnExactDomainCutSpec)) fnExactDomainCutCard

/-- THE TIED CARD OF 'laws.FnExactDomainCurry'. -/
def fnExactDomainCurryCard : Claim7 := { stood := { row := fnExactDomainCurryRow, standIns := [], harness := (true, "4d21ef769d709ae6853af3a4363b749d323d726a3ba9a21d498c0aa4380e052e"), looks := false }, kinds := [], alts := [], laidByText := true, laidKinds := [.data], laidTests := true, laidLooks := .later }
def FnExactDomainCurryCardSaid : Prop := Claim7.holds Tryd.pinned (.plain (OpenSpec.ofChange fnExactDomainCurrySpec)) fnExactDomainCurryCard

/-- THE TIED CARD OF 'laws.FnExactDomainUncurry'. -/
def fnExactDomainUncurryCard : Claim7 := { stood := { row := fnExactDomainUncurryRow, standIns := [], harness := (true, "4d21ef769d709ae6853af3a4363b749d323d726a3ba9a21d498c0aa4380e052e"), looks := false }, kinds := [], alts := [], laidByText := true, laidKinds := [.data], laidTests := true, laidLooks := .later }
def FnExactDomainUncurryCardSaid : Prop := Claim7.holds Tryd.pinned (.plain (OpenSpec.ofChange fnExactDomainUncurrySpec)) fnExactDomainUncurryCard

/-- THE TIED CARD OF 'laws.FnExactFunCount'. -/
def fnExactFunCountCard : Claim7 := { stood := { row := fnExactFunCountRow, standIns := [], harness := (true, "4d21ef769d709ae6853af3a4363b749d323d726a3ba9a21d498c0aa4380e052e"), looks := false }, kinds := [], alts := [], laidByText := true, laidKinds := [.data], laidTests := true, laidLooks := .later }
def FnExactFunCountCardSaid : Prop := Claim7.holds Tryd.pinned (.plain (OpenSpec.ofChange fnExactFunCountSpec)) fnExactFunCountCard

/-- THE SECOND FORM's CARD OF 'laws.FnExactDomainLift'. -/
def fnExactDomainLiftUptoCard : Claim7 := { stood := { row := fnExactDomainLiftUptoRow, standIns := [], harness := (true, "4d21ef769d709ae6853af3a4363b749d323d726a3ba9a21d498c0aa4380e052e"), looks := false }, kinds := [], alts := [], laidByText := true, laidKinds := [.data], laidTests := true, laidLooks := .later }
def FnExactDomainLiftUptoCardSaid : Prop := Claim7.holds Tryd.pinned (.plain (OpenSpec.upto fnExactDomainLiftSpec)) fnExactDomainLiftUptoCard

/-- THE SECOND FORM's CARD OF 'laws.FnExactDomainProduct'. -/
def fnExactDomainProductUptoCard : Claim7 := { stood := { row := fnExactDomainProductUptoRow, standIns := [], harness := (true, "4d21ef769d709ae6853af3a4363b749d323d726a3ba9a21d498c0aa4380e052e"), looks := false }, kinds := [], alts := [], laidByText := true, laidKinds := [.data], laidTests := true, laidLooks := .later }
def FnExactDomainProductUptoCardSaid : Prop := Claim7.holds Tryd.pinned (.plain (OpenSpec.upto fnExactDomainProductSpec)) fnExactDomainProductUptoCard

/-- THE SECOND FORM's CARD OF 'laws.FnExactDomainSum'. -/
def fnExactDomainSumUptoCard : Claim7 := { stood := { row := fnExactDomainSumUptoRow, standIns := [], harness := (true, "4d21ef769d709ae6853af3a4363b749d323d726a3ba9a21d498c0aa4380e052e"), looks := false }, kinds := [], alts := [], laidByText := true, laidKinds := [.data], laidTests := true, laidLooks := .later }
def FnExactDomainSumUptoCardSaid : Prop := Claim7.holds Tryd.pinned (.plain (OpenSpec.upto fnExactDomainSumSpec)) fnExactDomainSumUptoCard

/-- THE SECOND FORM's CARD OF 'laws.FnExactDomainFun'. -/
def fnExactDomainFunUptoCard : Claim7 := { stood := { row := fnExactDomainFunUptoRow, standIns := [], harness := (true, "4d21ef769d709ae6853af3a4363b749d323d726a3ba9a21d498c0aa4380e052e"), looks := false }, kinds := [], alts := [], laidByText := true, laidKinds := [.data], laidTests := true, laidLooks := .later }
def FnExactDomainFunUptoCardSaid : Prop := Claim7.holds Tryd.pinned (.plain (OpenSpec.upto fnExactDomainFunSpec)) fnExactDomainFunUptoCard

/-- THE SECOND FORM's CARD OF 'laws.FnExactDomainFuns'. -/
def fnExactDomainFunsUptoCard : Claim7 := { stood := { row := fnExactDomainFunsUptoRow, standIns := [], harness := (true, "4d21ef769d709ae6853af3a4363b749d323d726a3ba9a21d498c0aa4380e052e"), looks := false }, kinds := [], alts := [], laidByText := true, laidKinds := [.data], laidTests := true, laidLooks := .later }
def FnExactDomainFunsUptoCardSaid : Prop := Claim7.holds Tryd.pinned (.plain (OpenSpec.upto fnExactDomainFunsSpec)) fnExactDomainFunsUptoCard

/-- THE SECOND FORM's CARD OF 'laws.FnExactDomainIndex'. -/
def fnExactDomainIndexUptoCard : Claim7 := { stood := { row := fnExactDomainIndexUptoRow, standIns := [], harness := (true, "4d21ef769d709ae6853af3a4363b749d323d726a3ba9a21d498c0aa4380e052e"), looks := false }, kinds := [], alts := [], laidByText := true, laidKinds := [.data], laidTests := true, laidLooks := .later }
def FnExactDomainIndexUptoCardSaid : Prop := Claim7.holds Tryd.pinned (.plain (OpenSpec.upto fnExactDomainIndexSpec)) fnExactDomainIndexUptoCard

/-- THE SECOND FORM's CARD OF 'laws.FnExactDomainCut'. -/
def fnExactDomainCutUptoCard : Claim7 := { stood := { row := fnExactDomainCutUptoRow, standIns := [], harness := (true, "4d21ef769d709ae6853af3a4363b749d323d726a3ba9a21d498c0aa4380e052e"), looks := false }, kinds := [], alts := [], laidByText := true, laidKinds := [.data], laidTests := true, laidLooks := .later }
def FnExactDomainCutUptoCardSaid : Prop := Claim7.holds Tryd.pinned (.plain (OpenSpec.upto fnExactDomainCutSpec)) fnExactDomainCutUptoCard

/-- THE SECOND FORM's CARD OF 'laws.FnExactDomainCurry'. -/
def fnExactDomainCurryUptoCard : Claim7 := { stood := { row := fnExactDomainCurryUptoRow, standIns := [], harness := (true, "4d21ef769d709ae6853af3a4363b749d323d726a3ba9a21d498c0aa4380e052e"), looks := false }, kinds := [], alts := [], laidByText := true, laidKinds := [.data], laidTests := true, laidLooks := .later }
def FnExactDomainCurryUptoCardSaid : Prop := Claim7.holds Tryd.pinned (.plain (OpenSpec.upto fnExactDomainCurrySpec)) fnExactDomainCurryUptoCard

/-- THE SECOND FORM's CARD OF 'laws.FnExactDomainUncurry'. -/
def fnExactDomainUncurryUptoCard : Claim7 := { stood := { row := fnExactDomainUncurryUptoRow, standIns := [], harness := (true, "4d21ef769d709ae6853af3a4363b749d323d726a3ba9a21d498c0aa4380e052e"), looks := false }, kinds := [], alts := [], laidByText := true, laidKinds := [.data], laidTests := true, laidLooks := .later }
def FnExactDomainUncurryUptoCardSaid : Prop := Claim7.holds Tryd.pinned (.plain (OpenSpec.upto fnExactDomainUncurrySpec)) fnExactDomainUncurryUptoCard

/-- THE SECOND FORM's CARD OF 'laws.FnExactFunCount'. -/
def fnExactFunCountUptoCard : Claim7 := { stood := { row := fnExactFunCountUptoRow, standIns := [], harness := (true, "4d21ef769d709ae6853af3a4363b749d323d726a3ba9a21d498c0aa4380e052e"), looks := false }, kinds := [], alts := [], laidByText := true, laidKinds := [.data], laidTests := true, laidLooks := .later }
def FnExactFunCountUptoCardSaid : Prop := Claim7.holds Tryd.pinned (.plain (OpenSpec.upto fnExactFunCountSpec)) fnExactFunCountUptoCard
end Rows
end Go.Proofs.YtkjncgnclogfeaaDoor
