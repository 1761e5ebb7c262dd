/-
  DERIVED. GIVEN WITH THE SEED: THE CARDS: each row of YtfgpnmdmbhfdmaaDoorRows.lean that lists a variable, with what it lists TIED to the program's text (the seventh form; the later family's looks); each row that meets fmt, with fmt's text TOLD by the authors' own Lean function (tested against real Go, not proved from fmt's source: count such statements apart). THE CARD IS WHAT COUNTS. Prove the row's statement (the work); the ties are given (YtfgpnmdmbhfdmaaDoorTie.lean); close each card by the builder's one call (the guide's Derived/Test/ToyasCard.lean, 'card_holds'). Laid BY PROGRAM, IN A SANDBOX (cutbox-door.mjs). By AI agents, Wed Nov 11 2026. No macro, syntax, notation, axiom, sorry.
-/
import Derived.Test.YtfgpnmdmbhfdmaaDoorRows
import GoSem.ClaimSeven
namespace Go.Proofs.YtfgpnmdmbhfdmaaDoor
namespace Rows

/-- THE TIED CARD OF 'laws.FnExactPowerSets'. -/
def fnExactPowerSetsCard : Claim7 := { stood := { row := fnExactPowerSetsRow, standIns := [], harness := (true, "62b45239f3e2b2475b57dfb02c4c3b3adafa13f64e17d86da394b2d7bc67e032"), looks := false }, kinds := [], alts := [], laidByText := true, laidKinds := [.data], laidTests := true, laidLooks := .later }
def FnExactPowerSetsCardSaid : Prop := Claim7.holds Tryd.pinned (.plain (OpenSpec.ofChange fnExactPowerSetsSpec)) fnExactPowerSetsCard

/-- THE TIED CARD OF 'laws.FnExactPowerOrder'. -/
def fnExactPowerOrderCard : Claim7 := { stood := { row := fnExactPowerOrderRow, standIns := [], harness := (true, "62b45239f3e2b2475b57dfb02c4c3b3adafa13f64e17d86da394b2d7bc67e032"), looks := false }, kinds := [], alts := [], laidByText := true, laidKinds := [.data], laidTests := true, laidLooks := .later }
def FnExactPowerOrderCardSaid : Prop := Claim7.holds Tryd.pinned (.plain (OpenSpec.ofChange fnExactPowerOrderSpec)) fnExactPowerOrderCard

/-- THE TIED CARD OF 'laws.FnExactPowerClose'. -/
def fnExactPowerCloseCard : Claim7 := { stood := { row := fnExactPowerCloseRow, standIns := [], harness := (true, "62b45239f3e2b2475b57dfb02c4c3b3adafa13f64e17d86da394b2d7bc67e032"), looks := false }, kinds := [], alts := [], laidByText := true, laidKinds := [.data], laidTests := true, laidLooks := .later }
def FnExactPowerCloseCardSaid : Prop := Claim7.holds Tryd.pinned (.plain (OpenSpec.ofChange fnExactPowerCloseSpec)) fnExactPowerCloseCard

/-- THE TIED CARD OF 'laws.FnExactPowerOne'. -/
def fnExactPowerOneCard : Claim7 := { stood := { row := fnExactPowerOneRow, standIns := [], harness := (true, "62b45239f3e2b2475b57dfb02c4c3b3adafa13f64e17d86da394b2d7bc67e032"), looks := false }, kinds := [], alts := [], laidByText := true, laidKinds := [.data], laidTests := true, laidLooks := .later }
def FnExactPowerOneCardSaid : Prop := Claim7.holds Tryd.pinned (.plain (OpenSpec.ofChange fnExactPowerOneSpec)) fnExactPowerOneCard

/-- THE TIED CARD OF 'laws.FnExactPowerUnion'. -/
def fnExactPowerUnionCard : Claim7 := { stood := { row := fnExactPowerUnionRow, standIns := [], harness := (true, "62b45239f3e2b2475b57dfb02c4c3b3adafa13f64e17d86da394b2d7bc67e032"), looks := false }, kinds := [], alts := [], laidByText := true, laidKinds := [.data], laidTests := true, laidLooks := .later }
def FnExactPowerUnionCardSaid : Prop := Claim7.holds Tryd.pinned (.plain (OpenSpec.ofChange fnExactPowerUnionSpec)) fnExactPowerUnionCard

/-- THE TIED CARD OF 'laws.FnExactPowerMap'. -/
def fnExactPowerMapCard : Claim7 := { stood := { row := fnExactPowerMapRow, standIns := [], harness := (true, "62b45239f3e2b2475b57dfb02c4c3b3adafa13f64e17d86da394b2d7bc67e032"), looks := false }, kinds := [], alts := [], laidByText := true, laidKinds := [.data], laidTests := true, laidLooks := .later }
def FnExactPowerMapCardSaid : Prop := Claim7.holds Tryd.pinned (.plain (OpenSpec.ofChange fnExactPowerMapSpec)) fnExactPowerMapCard

/-- THE TIED CARD OF 'laws.FnExactPowerExtend'. -/
def fnExactPowerExtendCard : Claim7 := { stood := { row := fnExactPowerExtendRow, standIns := [], harness := (true, "62b45239f3e2b2475b57dfb02c4c3b3adafa13f64e17d86da394b2d7bc67e032"), looks := false }, kinds := [], alts := [], laidByText := true, laidKinds := [.data], laidTests := true, laidLooks := .later }
def FnExactPowerExtendCardSaid : Prop := Claim7.holds Tryd.pinned (.plain (OpenSpec.ofChange fnExactPowerExtendSpec)) fnExactPowerExtendCard

/-- THE TIED CARD OF 'laws.FnExactPowerBelow'. -/
def fnExactPowerBelowCard : Claim7 := { stood := { row := fnExactPowerBelowRow, standIns := [], harness := (true, "62b45239f3e2b2475b57dfb02c4c3b3adafa13f64e17d86da394b2d7bc67e032"), looks := false }, kinds := [], alts := [], laidByText := true, laidKinds := [.data], laidTests := true, laidLooks := .later }
def FnExactPowerBelowCardSaid : Prop := Claim7.holds Tryd.pinned (.plain (OpenSpec.ofChange fnExactPowerBelowSpec)) fnExactPowerBelowCard

/-- THE SECOND FORM's CARD OF 'laws.FnExactPowerSets'. -/
def fnExactPowerSetsUptoCard : Claim7 := { stood := { row := fnExactPowerSetsUptoRow, standIns := [], harness := (true, "62b45239f3e2b2475b57dfb02c4c3b3adafa13f64e17d86da394b2d7bc67e032"), looks := false }, kinds := [], alts := [], laidByText := true, laidKinds := [.data], laidTests := true, laidLooks := .later }
def FnExactPowerSetsUptoCardSaid : Prop := Claim7.holds Tryd.pinned (.plain (OpenSpec.upto fnExactPowerSetsSpec)) fnExactPowerSetsUptoCard

/-- THE SECOND FORM's CARD OF 'laws.FnExactPowerOrder'. -/
def fnExactPowerOrderUptoCard : Claim7 := { stood := { row := fnExactPowerOrderUptoRow, standIns := [], harness := (true, "62b45239f3e2b2475b57dfb02c4c3b3adafa13f64e17d86da394b2d7bc67e032"), looks := false }, kinds := [], alts := [], laidByText := true, laidKinds := [.data], laidTests := true, laidLooks := .later }
def FnExactPowerOrderUptoCardSaid : Prop := Claim7.holds Tryd.pinned (.plain (OpenSpec.upto fnExactPowerOrderSpec)) fnExactPowerOrderUptoCard

/-- THE SECOND FORM's CARD OF 'laws.FnExactPowerClose'. -/
def fnExactPowerCloseUptoCard : Claim7 := { stood := { row := fnExactPowerCloseUptoRow, standIns := [], harness := (true, "62b45239f3e2b2475b57dfb02c4c3b3adafa13f64e17d86da394b2d7bc67e032"), looks := false }, kinds := [], alts := [], laidByText := true, laidKinds := [.data], laidTests := true, laidLooks := .later }
def FnExactPowerCloseUptoCardSaid : Prop := Claim7.holds Tryd.pinned (.plain (OpenSpec.upto fnExactPowerCloseSpec)) fnExactPowerCloseUptoCard

/-- THE SECOND FORM's CARD OF 'laws.FnExactPowerOne'. -/
def fnExactPowerOneUptoCard : Claim7 := { stood := { row := fnExactPowerOneUptoRow, standIns := [], harness := (true, "62b45239f3e2b2475b57dfb02c4c3b3adafa13f64e17d86da394b2d7bc67e032"), looks := false }, kinds := [], alts := [], laidByText := true, laidKinds := [.data], laidTests := true, laidLooks := .later }
def FnExactPowerOneUptoCardSaid : Prop := Claim7.holds Tryd.pinned (.plain (OpenSpec.upto fnExactPowerOneSpec)) fnExactPowerOneUptoCard

/-- THE SECOND FORM's CARD OF 'laws.FnExactPowerUnion'. -/
def fnExactPowerUnionUptoCard : Claim7 := { stood := { row := fnExactPowerUnionUptoRow, standIns := [], harness := (true, "62b45239f3e2b2475b57dfb02c4c3b3adafa13f64e17d86da394b2d7bc67e032"), looks := false }, kinds := [], alts := [], laidByText := true, laidKinds := [.data], laidTests := true, laidLooks := .later }
def FnExactPowerUnionUptoCardSaid : Prop := Claim7.holds Tryd.pinned (.plain (OpenSpec.upto fnExactPowerUnionSpec)) fnExactPowerUnionUptoCard

/-- THE SECOND FORM's CARD OF 'laws.FnExactPowerMap'. -/
def fnExactPowerMapUptoCard : Claim7 := { stood := { row := fnExactPowerMapUptoRow, standIns := [], harness := (true, "62b45239f3e2b2475b57dfb02c4c3b3adafa13f64e17d86da394b2d7bc67e032"), looks := false }, kinds := [], alts := [], laidByText := true, laidKinds := [.data], laidTests := true, laidLooks := .later }
def FnExactPowerMapUptoCardSaid : Prop := Claim7.holds Tryd.pinned (.plain (OpenSpec.upto fnExactPowerMapSpec)) fnExactPowerMapUptoCard

/-- THE SECOND FORM's CARD OF 'laws.FnExactPowerExtend'. -/
def fnExactPowerExtendUptoCard : Claim7 := { stood := { row := fnExactPowerExtendUptoRow, standIns := [], harness := (true, "62b45239f3e2b2475b57dfb02c4c3b3adafa13f64e17d86da394b2d7bc67e032"), looks := false }, kinds := [], alts := [], laidByText := true, laidKinds := [.data], laidTests := true, laidLooks := .later }
def FnExactPowerExtendUptoCardSaid : Prop := Claim7.holds Tryd.pinned (.plain (OpenSpec.upto fnExactPowerExtendSpec)) fnExactPowerExtendUptoCard

/-- THE SECOND FORM's CARD OF 'laws.FnExactPowerBelow'. -/
def fnExactPowerBelowUptoCard : Claim7 := { stood := { row := fnExactPowerBelowUptoRow, standIns := [], harness := (true, "62b45239f3e2b2475b57dfb02c4c3b3adafa13f64e17d86da394b2d7bc67e032"), looks := false }, kinds := [], alts := [], laidByText := true, laidKinds := [.data], laidTests := true, laidLooks := .later }
def FnExactPowerBelowUptoCardSaid : Prop := Claim7.holds Tryd.pinned (.plain (OpenSpec.upto fnExactPowerBelowSpec)) fnExactPowerBelowUptoCard
end Rows
end Go.Proofs.YtfgpnmdmbhfdmaaDoor
