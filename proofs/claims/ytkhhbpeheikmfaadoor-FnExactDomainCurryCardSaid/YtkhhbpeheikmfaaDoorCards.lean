/-
  DERIVED. GIVEN WITH THE SEED: THE CARDS: each row of YtkhhbpeheikmfaaDoorRows.lean that lists a variable, with what it lists TIED to the program's text (the seventh form; the later family's looks); each row that meets fmt, with fmt's text TOLD by the authors' own Lean function (tested against real Go, not proved from fmt's source: count such statements apart). THE CARD IS WHAT COUNTS. Prove the row's statement (the work); the ties are given (YtkhhbpeheikmfaaDoorTie.lean); close each card by the builder's one call (the guide's Derived/Test/ToyasCard.lean, 'card_holds'). Laid BY PROGRAM, IN A SANDBOX (cutbox-door.mjs). By AI agents, Wed Nov 11 2026. No macro, syntax, notation, axiom, sorry.
-/
import Derived.Test.YtkhhbpeheikmfaaDoorRows
import GoSem.ClaimSeven
namespace Go.Proofs.YtkhhbpeheikmfaaDoor
namespace Rows

/-- THE TIED CARD OF 'laws.FnExactDomainFun'. -/
def fnExactDomainFunCard : Claim7 := { stood := { row := fnExactDomainFunRow, standIns := [], harness := (true, "bb1365370d3311c28e7d1325baba7ca41bf0457d7b8ab6d243b6733c5988c445"), looks := false }, kinds := [], alts := [], laidByText := true, laidKinds := [.data], laidTests := true, laidLooks := .later }
def FnExactDomainFunCardSaid : Prop := Claim7.holds Tryd.pinned (.plain (OpenSpec.ofChange fnExactDomainFunSpec)) fnExactDomainFunCard

/-- THE TIED CARD OF 'laws.FnExactDomainFuns'. -/
def fnExactDomainFunsCard : Claim7 := { stood := { row := fnExactDomainFunsRow, standIns := [], harness := (true, "bb1365370d3311c28e7d1325baba7ca41bf0457d7b8ab6d243b6733c5988c445"), looks := false }, kinds := [], alts := [], laidByText := true, laidKinds := [.data], laidTests := true, laidLooks := .later }
def FnExactDomainFunsCardSaid : Prop := Claim7.holds Tryd.pinned (.plain (OpenSpec.ofChange fnExactDomainFunsSpec)) fnExactDomainFunsCard

/-- THE TIED CARD OF 'laws.FnExactDomainIndex'. -/
def fnExactDomainIndexCard : Claim7 := { stood := { row := fnExactDomainIndexRow, standIns := [], harness := (true, "bb1365370d3311c28e7d1325baba7ca41bf0457d7b8ab6d243b6733c5988c445"), looks := false }, kinds := [], alts := [], laidByText := true, laidKinds := [.data], laidTests := true, laidLooks := .later }
def FnExactDomainIndexCardSaid : Prop := Claim7.holds Tryd.pinned (.plain (OpenSpec.ofChange fnExactDomainIndexSpec)) fnExactDomainIndexCard

/-- THE TIED CARD OF 'laws.FnExactDomainCurry'. -/
def fnExactDomainCurryCard : Claim7 := { stood := { row := fnExactDomainCurryRow, standIns := [], harness := (true, "bb1365370d3311c28e7d1325baba7ca41bf0457d7b8ab6d243b6733c5988c445"), looks := false }, kinds := [], alts := [], laidByText := true, laidKinds := [.data], laidTests := true, laidLooks := .later }
def FnExactDomainCurryCardSaid : Prop := Claim7.holds Tryd.pinned (.plain (OpenSpec.ofChange fnExactDomainCurrySpec)) fnExactDomainCurryCard

/-- THE TIED CARD OF 'laws.FnExactDomainUncurry'. -/
def fnExactDomainUncurryCard : Claim7 := { stood := { row := fnExactDomainUncurryRow, standIns := [], harness := (true, "bb1365370d3311c28e7d1325baba7ca41bf0457d7b8ab6d243b6733c5988c445"), looks := false }, kinds := [], alts := [], laidByText := true, laidKinds := [.data], laidTests := true, laidLooks := .later }
def FnExactDomainUncurryCardSaid : Prop := Claim7.holds Tryd.pinned (.plain (OpenSpec.ofChange fnExactDomainUncurrySpec)) fnExactDomainUncurryCard

/-- THE TIED CARD OF 'laws.FnExactFunCount'. -/
def fnExactFunCountCard : Claim7 := { stood := { row := fnExactFunCountRow, standIns := [], harness := (true, "bb1365370d3311c28e7d1325baba7ca41bf0457d7b8ab6d243b6733c5988c445"), looks := false }, kinds := [], alts := [], laidByText := true, laidKinds := [.data], laidTests := true, laidLooks := .later }
def FnExactFunCountCardSaid : Prop := Claim7.holds Tryd.pinned (.plain (OpenSpec.ofChange fnExactFunCountSpec)) fnExactFunCountCard

/-- THE SECOND FORM's CARD OF 'laws.FnExactDomainFun'. -/
def fnExactDomainFunUptoCard : Claim7 := { stood := { row := fnExactDomainFunUptoRow, standIns := [], harness := (true, "bb1365370d3311c28e7d1325baba7ca41bf0457d7b8ab6d243b6733c5988c445"), looks := false }, kinds := [], alts := [], laidByText := true, laidKinds := [.data], laidTests := true, laidLooks := .later }
def FnExactDomainFunUptoCardSaid : Prop := Claim7.holds Tryd.pinned (.plain (OpenSpec.upto fnExactDomainFunSpec)) fnExactDomainFunUptoCard

/-- THE SECOND FORM's CARD OF 'laws.FnExactDomainFuns'. -/
def fnExactDomainFunsUptoCard : Claim7 := { stood := { row := fnExactDomainFunsUptoRow, standIns := [], harness := (true, "bb1365370d3311c28e7d1325baba7ca41bf0457d7b8ab6d243b6733c5988c445"), looks := false }, kinds := [], alts := [], laidByText := true, laidKinds := [.data], laidTests := true, laidLooks := .later }
def FnExactDomainFunsUptoCardSaid : Prop := Claim7.holds Tryd.pinned (.plain (OpenSpec.upto fnExactDomainFunsSpec)) fnExactDomainFunsUptoCard

/-- THE SECOND FORM's CARD OF 'laws.FnExactDomainIndex'. -/
def fnExactDomainIndexUptoCard : Claim7 := { stood := { row := fnExactDomainIndexUptoRow, standIns := [], harness := (true, "bb1365370d3311c28e7d1325baba7ca41bf0457d7b8ab6d243b6733c5988c445"), looks := false }, kinds := [], alts := [], laidByText := true, laidKinds := [.data], laidTests := true, laidLooks := .later }
def FnExactDomainIndexUptoCardSaid : Prop := Claim7.holds Tryd.pinned (.plain (OpenSpec.upto fnExactDomainIndexSpec)) fnExactDomainIndexUptoCard

/-- THE SECOND FORM's CARD OF 'laws.FnExactDomainCurry'. -/
def fnExactDomainCurryUptoCard : Claim7 := { stood := { row := fnExactDomainCurryUptoRow, standIns := [], harness := (true, "bb1365370d3311c28e7d1325baba7ca41bf0457d7b8ab6d243b6733c5988c445"), looks := false }, kinds := [], alts := [], laidByText := true, laidKinds := [.data], laidTests := true, laidLooks := .later }
def FnExactDomainCurryUptoCardSaid : Prop := Claim7.holds Tryd.pinned (.plain (OpenSpec.upto fnExactDomainCurrySpec)) fnExactDomainCurryUptoCard

/-- THE SECOND FORM's CARD OF 'laws.FnExactDomainUncurry'. -/
def fnExactDomainUncurryUptoCard : Claim7 := { stood := { row := fnExactDomainUncurryUptoRow, standIns := [], harness := (true, "bb1365370d3311c28e7d1325baba7ca41bf0457d7b8ab6d243b6733c5988c445"), looks := false }, kinds := [], alts := [], laidByText := true, laidKinds := [.data], laidTests := true, laidLooks := .later }
def FnExactDomainUncurryUptoCardSaid : Prop := Claim7.holds Tryd.pinned (.plain (OpenSpec.upto fnExactDomainUncurrySpec)) fnExactDomainUncurryUptoCard

/-- THE SECOND FORM's CARD OF 'laws.FnExactFunCount'. -/
def fnExactFunCountUptoCard : Claim7 := { stood := { row := fnExactFunCountUptoRow, standIns := [], harness := (true, "bb1365370d3311c28e7d1325baba7ca41bf0457d7b8ab6d243b6733c5988c445"), looks := false }, kinds := [], alts := [], laidByText := true, laidKinds := [.data], laidTests := true, laidLooks := .later }
def FnExactFunCountUptoCardSaid : Prop := Claim7.holds Tryd.pinned (.plain (OpenSpec.upto fnExactFunCountSpec)) fnExactFunCountUptoCard
end Rows
end Go.Proofs.YtkhhbpeheikmfaaDoor
