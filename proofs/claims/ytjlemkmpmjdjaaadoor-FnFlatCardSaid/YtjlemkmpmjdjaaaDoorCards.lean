/-
  DERIVED. GIVEN WITH THE SEED: THE CARDS: each row of YtjlemkmpmjdjaaaDoorRows.lean that lists a variable, with what it lists TIED to the program's text (the seventh form; the later family's looks); each row that meets fmt, with fmt's text TOLD by the authors' own Lean function (tested against real Go, not proved from fmt's source: count such statements apart). THE CARD IS WHAT COUNTS. Prove the row's statement (the work); the ties are given (YtjlemkmpmjdjaaaDoorTie.lean); close each card by the builder's one call (the guide's Derived/Test/ToyasCard.lean, 'card_holds'). Laid BY PROGRAM, IN A SANDBOX (cutbox-door.mjs). By AI agents, Wed Nov 11 2026. No macro, syntax, notation, axiom, sorry.
-/
import Derived.Test.YtjlemkmpmjdjaaaDoorRows
import GoSem.ClaimSeven
namespace Go.Proofs.YtjlemkmpmjdjaaaDoor
namespace Rows

/-- THE TIED CARD OF 'laws.FnOrder'. -/
def fnOrderCard : Claim7 := { stood := { row := fnOrderRow, standIns := [], harness := (true, "9b61430a47ab38c9d24e2a983813c461bfcd5ba1ba578befc6b510430b23a108"), looks := false }, kinds := [], alts := [], laidByText := true, laidKinds := [.data], laidTests := true, laidLooks := .later }
def FnOrderCardSaid : Prop := Claim7.holds Tryd.pinned (.plain (OpenSpec.ofChange fnOrderSpec)) fnOrderCard

/-- THE TIED CARD OF 'laws.FnBelow'. -/
def fnBelowCard : Claim7 := { stood := { row := fnBelowRow, standIns := [], harness := (true, "9b61430a47ab38c9d24e2a983813c461bfcd5ba1ba578befc6b510430b23a108"), looks := false }, kinds := [], alts := [], laidByText := true, laidKinds := [.data], laidTests := true, laidLooks := .later }
def FnBelowCardSaid : Prop := Claim7.holds Tryd.pinned (.plain (OpenSpec.ofChange fnBelowSpec)) fnBelowCard

/-- THE TIED CARD OF 'laws.FnLeast'. -/
def fnLeastCard : Claim7 := { stood := { row := fnLeastRow, standIns := [], harness := (true, "9b61430a47ab38c9d24e2a983813c461bfcd5ba1ba578befc6b510430b23a108"), looks := false }, kinds := [], alts := [], laidByText := true, laidKinds := [.data], laidTests := true, laidLooks := .later }
def FnLeastCardSaid : Prop := Claim7.holds Tryd.pinned (.plain (OpenSpec.ofChange fnLeastSpec)) fnLeastCard

/-- THE TIED CARD OF 'laws.FnJoin'. -/
def fnJoinCard : Claim7 := { stood := { row := fnJoinRow, standIns := [], harness := (true, "9b61430a47ab38c9d24e2a983813c461bfcd5ba1ba578befc6b510430b23a108"), looks := false }, kinds := [], alts := [], laidByText := true, laidKinds := [.data], laidTests := true, laidLooks := .later }
def FnJoinCardSaid : Prop := Claim7.holds Tryd.pinned (.plain (OpenSpec.ofChange fnJoinSpec)) fnJoinCard

/-- THE TIED CARD OF 'laws.FnMeet'. -/
def fnMeetCard : Claim7 := { stood := { row := fnMeetRow, standIns := [], harness := (true, "9b61430a47ab38c9d24e2a983813c461bfcd5ba1ba578befc6b510430b23a108"), looks := false }, kinds := [], alts := [], laidByText := true, laidKinds := [.data], laidTests := true, laidLooks := .later }
def FnMeetCardSaid : Prop := Claim7.holds Tryd.pinned (.plain (OpenSpec.ofChange fnMeetSpec)) fnMeetCard

/-- THE TIED CARD OF 'laws.FnCovers'. -/
def fnCoversCard : Claim7 := { stood := { row := fnCoversRow, standIns := [], harness := (true, "9b61430a47ab38c9d24e2a983813c461bfcd5ba1ba578befc6b510430b23a108"), looks := false }, kinds := [], alts := [], laidByText := true, laidKinds := [.data], laidTests := true, laidLooks := .later }
def FnCoversCardSaid : Prop := Claim7.holds Tryd.pinned (.plain (OpenSpec.ofChange fnCoversSpec)) fnCoversCard

/-- THE TIED CARD OF 'laws.FnFrom'. -/
def fnFromCard : Claim7 := { stood := { row := fnFromRow, standIns := [], harness := (true, "9b61430a47ab38c9d24e2a983813c461bfcd5ba1ba578befc6b510430b23a108"), looks := false }, kinds := [], alts := [], laidByText := true, laidKinds := [.data], laidTests := true, laidLooks := .later }
def FnFromCardSaid : Prop := Claim7.holds Tryd.pinned (.plain (OpenSpec.ofChange fnFromSpec)) fnFromCard

/-- THE TIED CARD OF 'laws.FnHeight'. -/
def fnHeightCard : Claim7 := { stood := { row := fnHeightRow, standIns := [], harness := (true, "9b61430a47ab38c9d24e2a983813c461bfcd5ba1ba578befc6b510430b23a108"), looks := false }, kinds := [], alts := [], laidByText := true, laidKinds := [.data], laidTests := true, laidLooks := .later }
def FnHeightCardSaid : Prop := Claim7.holds Tryd.pinned (.plain (OpenSpec.ofChange fnHeightSpec)) fnHeightCard

/-- THE TIED CARD OF 'laws.FnDomain'. -/
def fnDomainCard : Claim7 := { stood := { row := fnDomainRow, standIns := [], harness := (true, "9b61430a47ab38c9d24e2a983813c461bfcd5ba1ba578befc6b510430b23a108"), looks := false }, kinds := [], alts := [], laidByText := true, laidKinds := [.data], laidTests := true, laidLooks := .later }
def FnDomainCardSaid : Prop := Claim7.holds Tryd.pinned (.plain (OpenSpec.ofChange fnDomainSpec)) fnDomainCard

/-- THE TIED CARD OF 'laws.FnFlat'. -/
def fnFlatCard : Claim7 := { stood := { row := fnFlatRow, standIns := [], harness := (true, "9b61430a47ab38c9d24e2a983813c461bfcd5ba1ba578befc6b510430b23a108"), looks := false }, kinds := [], alts := [], laidByText := true, laidKinds := [.data], laidTests := true, laidLooks := .later }
def FnFlatCardSaid : Prop := Claim7.holds Tryd.pinned (.plain (OpenSpec.ofChange fnFlatSpec)) fnFlatCard

/-- THE TIED CARD OF 'laws.FnChain'. -/
def fnChainCard : Claim7 := { stood := { row := fnChainRow, standIns := [], harness := (true, "9b61430a47ab38c9d24e2a983813c461bfcd5ba1ba578befc6b510430b23a108"), looks := false }, kinds := [], alts := [], laidByText := true, laidKinds := [.data], laidTests := true, laidLooks := .later }
def FnChainCardSaid : Prop := Claim7.holds Tryd.pinned (.plain (OpenSpec.ofChange fnChainSpec)) fnChainCard

/-- THE TIED CARD OF 'laws.FnExactOrderFrom'. -/
def fnExactOrderFromCard : Claim7 := { stood := { row := fnExactOrderFromRow, standIns := [], harness := (true, "9b61430a47ab38c9d24e2a983813c461bfcd5ba1ba578befc6b510430b23a108"), looks := false }, kinds := [], alts := [], laidByText := true, laidKinds := [.data], laidTests := true, laidLooks := .later }
def FnExactOrderFromCardSaid : Prop := Claim7.holds Tryd.pinned (.plain (OpenSpec.ofChange fnExactOrderFromSpec)) fnExactOrderFromCard

/-- THE TIED CARD OF 'laws.FnExactOrderWays'. -/
def fnExactOrderWaysCard : Claim7 := { stood := { row := fnExactOrderWaysRow, standIns := [], harness := (true, "9b61430a47ab38c9d24e2a983813c461bfcd5ba1ba578befc6b510430b23a108"), looks := false }, kinds := [], alts := [], laidByText := true, laidKinds := [.data], laidTests := true, laidLooks := .later }
def FnExactOrderWaysCardSaid : Prop := Claim7.holds Tryd.pinned (.plain (OpenSpec.ofChange fnExactOrderWaysSpec)) fnExactOrderWaysCard

/-- THE SECOND FORM's CARD OF 'laws.FnOrder'. -/
def fnOrderUptoCard : Claim7 := { stood := { row := fnOrderUptoRow, standIns := [], harness := (true, "9b61430a47ab38c9d24e2a983813c461bfcd5ba1ba578befc6b510430b23a108"), looks := false }, kinds := [], alts := [], laidByText := true, laidKinds := [.data], laidTests := true, laidLooks := .later }
def FnOrderUptoCardSaid : Prop := Claim7.holds Tryd.pinned (.plain (OpenSpec.upto fnOrderSpec)) fnOrderUptoCard

/-- THE SECOND FORM's CARD OF 'laws.FnBelow'. -/
def fnBelowUptoCard : Claim7 := { stood := { row := fnBelowUptoRow, standIns := [], harness := (true, "9b61430a47ab38c9d24e2a983813c461bfcd5ba1ba578befc6b510430b23a108"), looks := false }, kinds := [], alts := [], laidByText := true, laidKinds := [.data], laidTests := true, laidLooks := .later }
def FnBelowUptoCardSaid : Prop := Claim7.holds Tryd.pinned (.plain (OpenSpec.upto fnBelowSpec)) fnBelowUptoCard

/-- THE SECOND FORM's CARD OF 'laws.FnLeast'. -/
def fnLeastUptoCard : Claim7 := { stood := { row := fnLeastUptoRow, standIns := [], harness := (true, "9b61430a47ab38c9d24e2a983813c461bfcd5ba1ba578befc6b510430b23a108"), looks := false }, kinds := [], alts := [], laidByText := true, laidKinds := [.data], laidTests := true, laidLooks := .later }
def FnLeastUptoCardSaid : Prop := Claim7.holds Tryd.pinned (.plain (OpenSpec.upto fnLeastSpec)) fnLeastUptoCard

/-- THE SECOND FORM's CARD OF 'laws.FnJoin'. -/
def fnJoinUptoCard : Claim7 := { stood := { row := fnJoinUptoRow, standIns := [], harness := (true, "9b61430a47ab38c9d24e2a983813c461bfcd5ba1ba578befc6b510430b23a108"), looks := false }, kinds := [], alts := [], laidByText := true, laidKinds := [.data], laidTests := true, laidLooks := .later }
def FnJoinUptoCardSaid : Prop := Claim7.holds Tryd.pinned (.plain (OpenSpec.upto fnJoinSpec)) fnJoinUptoCard

/-- THE SECOND FORM's CARD OF 'laws.FnMeet'. -/
def fnMeetUptoCard : Claim7 := { stood := { row := fnMeetUptoRow, standIns := [], harness := (true, "9b61430a47ab38c9d24e2a983813c461bfcd5ba1ba578befc6b510430b23a108"), looks := false }, kinds := [], alts := [], laidByText := true, laidKinds := [.data], laidTests := true, laidLooks := .later }
def FnMeetUptoCardSaid : Prop := Claim7.holds Tryd.pinned (.plain (OpenSpec.upto fnMeetSpec)) fnMeetUptoCard

/-- THE SECOND FORM's CARD OF 'laws.FnCovers'. -/
def fnCoversUptoCard : Claim7 := { stood := { row := fnCoversUptoRow, standIns := [], harness := (true, "9b61430a47ab38c9d24e2a983813c461bfcd5ba1ba578befc6b510430b23a108"), looks := false }, kinds := [], alts := [], laidByText := true, laidKinds := [.data], laidTests := true, laidLooks := .later }
def FnCoversUptoCardSaid : Prop := Claim7.holds Tryd.pinned (.plain (OpenSpec.upto fnCoversSpec)) fnCoversUptoCard

/-- THE SECOND FORM's CARD OF 'laws.FnFrom'. -/
def fnFromUptoCard : Claim7 := { stood := { row := fnFromUptoRow, standIns := [], harness := (true, "9b61430a47ab38c9d24e2a983813c461bfcd5ba1ba578befc6b510430b23a108"), looks := false }, kinds := [], alts := [], laidByText := true, laidKinds := [.data], laidTests := true, laidLooks := .later }
def FnFromUptoCardSaid : Prop := Claim7.holds Tryd.pinned (.plain (OpenSpec.upto fnFromSpec)) fnFromUptoCard

/-- THE SECOND FORM's CARD OF 'laws.FnHeight'. -/
def fnHeightUptoCard : Claim7 := { stood := { row := fnHeightUptoRow, standIns := [], harness := (true, "9b61430a47ab38c9d24e2a983813c461bfcd5ba1ba578befc6b510430b23a108"), looks := false }, kinds := [], alts := [], laidByText := true, laidKinds := [.data], laidTests := true, laidLooks := .later }
def FnHeightUptoCardSaid : Prop := Claim7.holds Tryd.pinned (.plain (OpenSpec.upto fnHeightSpec)) fnHeightUptoCard

/-- THE SECOND FORM's CARD OF 'laws.FnDomain'. -/
def fnDomainUptoCard : Claim7 := { stood := { row := fnDomainUptoRow, standIns := [], harness := (true, "9b61430a47ab38c9d24e2a983813c461bfcd5ba1ba578befc6b510430b23a108"), looks := false }, kinds := [], alts := [], laidByText := true, laidKinds := [.data], laidTests := true, laidLooks := .later }
def FnDomainUptoCardSaid : Prop := Claim7.holds Tryd.pinned (.plain (OpenSpec.upto fnDomainSpec)) fnDomainUptoCard

/-- THE SECOND FORM's CARD OF 'laws.FnFlat'. -/
def fnFlatUptoCard : Claim7 := { stood := { row := fnFlatUptoRow, standIns := [], harness := (true, "9b61430a47ab38c9d24e2a983813c461bfcd5ba1ba578befc6b510430b23a108"), looks := false }, kinds := [], alts := [], laidByText := true, laidKinds := [.data], laidTests := true, laidLooks := .later }
def FnFlatUptoCardSaid : Prop := Claim7.holds Tryd.pinned (.plain (OpenSpec.upto fnFlatSpec)) fnFlatUptoCard

/-- THE SECOND FORM's CARD OF 'laws.FnChain'. -/
def fnChainUptoCard : Claim7 := { stood := { row := fnChainUptoRow, standIns := [], harness := (true, "9b61430a47ab38c9d24e2a983813c461bfcd5ba1ba578befc6b510430b23a108"), looks := false }, kinds := [], alts := [], laidByText := true, laidKinds := [.data], laidTests := true, laidLooks := .later }
def FnChainUptoCardSaid : Prop := Claim7.holds Tryd.pinned (.plain (OpenSpec.upto fnChainSpec)) fnChainUptoCard

/-- THE SECOND FORM's CARD OF 'laws.FnExactOrderFrom'. -/
def fnExactOrderFromUptoCard : Claim7 := { stood := { row := fnExactOrderFromUptoRow, standIns := [], harness := (true, "9b61430a47ab38c9d24e2a983813c461bfcd5ba1ba578befc6b510430b23a108"), looks := false }, kinds := [], alts := [], laidByText := true, laidKinds := [.data], laidTests := true, laidLooks := .later }
def FnExactOrderFromUptoCardSaid : Prop := Claim7.holds Tryd.pinned (.plain (OpenSpec.upto fnExactOrderFromSpec)) fnExactOrderFromUptoCard

/-- THE SECOND FORM's CARD OF 'laws.FnExactOrderWays'. -/
def fnExactOrderWaysUptoCard : Claim7 := { stood := { row := fnExactOrderWaysUptoRow, standIns := [], harness := (true, "9b61430a47ab38c9d24e2a983813c461bfcd5ba1ba578befc6b510430b23a108"), looks := false }, kinds := [], alts := [], laidByText := true, laidKinds := [.data], laidTests := true, laidLooks := .later }
def FnExactOrderWaysUptoCardSaid : Prop := Claim7.holds Tryd.pinned (.plain (OpenSpec.upto fnExactOrderWaysSpec)) fnExactOrderWaysUptoCard
end Rows
end Go.Proofs.YtjlemkmpmjdjaaaDoor
