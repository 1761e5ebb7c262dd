/-
  DERIVED. GIVEN WITH THE SEED: THE CARDS: each row of YtcmpbdpghoadeaaDoorRows.lean that lists a variable, with what it lists TIED to the program's text (the seventh form; the later family's looks); each row that meets fmt, with fmt's text TOLD by the authors' own Lean function (tested against real Go, not proved from fmt's source: count such statements apart). THE CARD IS WHAT COUNTS. Prove the row's statement (the work); the ties are given (YtcmpbdpghoadeaaDoorTie.lean); close each card by the builder's one call (the guide's Derived/Test/ToyasCard.lean, 'card_holds'). Laid BY PROGRAM, IN A SANDBOX (cutbox-door.mjs). By AI agents, Wed Nov 11 2026. No macro, syntax, notation, axiom, sorry.
-/
import Derived.Test.YtcmpbdpghoadeaaDoorRows
import GoSem.ClaimSeven
namespace Go.Proofs.YtcmpbdpghoadeaaDoor
namespace Rows

/-- THE TIED CARD OF 'laws.FnExactOrderLeast'. -/
def fnExactOrderLeastCard : Claim7 := { stood := { row := fnExactOrderLeastRow, standIns := [], harness := (true, "3fa24fa310e518330814953cfcc0c9a905edc056f5954bb23652279c59f3099d"), looks := false }, kinds := [], alts := [], laidByText := true, laidKinds := [.data], laidTests := true, laidLooks := .later }
def FnExactOrderLeastCardSaid : Prop := Claim7.holds Tryd.pinned (.plain (OpenSpec.ofChange fnExactOrderLeastSpec)) fnExactOrderLeastCard

/-- THE TIED CARD OF 'laws.FnExactOrderJoin'. -/
def fnExactOrderJoinCard : Claim7 := { stood := { row := fnExactOrderJoinRow, standIns := [], harness := (true, "3fa24fa310e518330814953cfcc0c9a905edc056f5954bb23652279c59f3099d"), looks := false }, kinds := [], alts := [], laidByText := true, laidKinds := [.data], laidTests := true, laidLooks := .later }
def FnExactOrderJoinCardSaid : Prop := Claim7.holds Tryd.pinned (.plain (OpenSpec.ofChange fnExactOrderJoinSpec)) fnExactOrderJoinCard

/-- THE TIED CARD OF 'laws.FnExactOrderMeet'. -/
def fnExactOrderMeetCard : Claim7 := { stood := { row := fnExactOrderMeetRow, standIns := [], harness := (true, "3fa24fa310e518330814953cfcc0c9a905edc056f5954bb23652279c59f3099d"), looks := false }, kinds := [], alts := [], laidByText := true, laidKinds := [.data], laidTests := true, laidLooks := .later }
def FnExactOrderMeetCardSaid : Prop := Claim7.holds Tryd.pinned (.plain (OpenSpec.ofChange fnExactOrderMeetSpec)) fnExactOrderMeetCard

/-- THE TIED CARD OF 'laws.FnExactOrderCovers'. -/
def fnExactOrderCoversCard : Claim7 := { stood := { row := fnExactOrderCoversRow, standIns := [], harness := (true, "3fa24fa310e518330814953cfcc0c9a905edc056f5954bb23652279c59f3099d"), looks := false }, kinds := [], alts := [], laidByText := true, laidKinds := [.data], laidTests := true, laidLooks := .later }
def FnExactOrderCoversCardSaid : Prop := Claim7.holds Tryd.pinned (.plain (OpenSpec.ofChange fnExactOrderCoversSpec)) fnExactOrderCoversCard

/-- THE TIED CARD OF 'laws.FnExactOrderFrom'. -/
def fnExactOrderFromCard : Claim7 := { stood := { row := fnExactOrderFromRow, standIns := [], harness := (true, "3fa24fa310e518330814953cfcc0c9a905edc056f5954bb23652279c59f3099d"), looks := false }, kinds := [], alts := [], laidByText := true, laidKinds := [.data], laidTests := true, laidLooks := .later }
def FnExactOrderFromCardSaid : Prop := Claim7.holds Tryd.pinned (.plain (OpenSpec.ofChange fnExactOrderFromSpec)) fnExactOrderFromCard

/-- THE TIED CARD OF 'laws.FnExactOrderBack'. -/
def fnExactOrderBackCard : Claim7 := { stood := { row := fnExactOrderBackRow, standIns := [], harness := (true, "3fa24fa310e518330814953cfcc0c9a905edc056f5954bb23652279c59f3099d"), looks := false }, kinds := [], alts := [], laidByText := true, laidKinds := [.data], laidTests := true, laidLooks := .later }
def FnExactOrderBackCardSaid : Prop := Claim7.holds Tryd.pinned (.plain (OpenSpec.ofChange fnExactOrderBackSpec)) fnExactOrderBackCard

/-- THE TIED CARD OF 'laws.FnExactOrderHeight'. -/
def fnExactOrderHeightCard : Claim7 := { stood := { row := fnExactOrderHeightRow, standIns := [], harness := (true, "3fa24fa310e518330814953cfcc0c9a905edc056f5954bb23652279c59f3099d"), looks := false }, kinds := [], alts := [], laidByText := true, laidKinds := [.data], laidTests := true, laidLooks := .later }
def FnExactOrderHeightCardSaid : Prop := Claim7.holds Tryd.pinned (.plain (OpenSpec.ofChange fnExactOrderHeightSpec)) fnExactOrderHeightCard

/-- THE TIED CARD OF 'laws.FnExactDomainIs'. -/
def fnExactDomainIsCard : Claim7 := { stood := { row := fnExactDomainIsRow, standIns := [], harness := (true, "3fa24fa310e518330814953cfcc0c9a905edc056f5954bb23652279c59f3099d"), looks := false }, kinds := [], alts := [], laidByText := true, laidKinds := [.data], laidTests := true, laidLooks := .later }
def FnExactDomainIsCardSaid : Prop := Claim7.holds Tryd.pinned (.plain (OpenSpec.ofChange fnExactDomainIsSpec)) fnExactDomainIsCard

/-- THE TIED CARD OF 'laws.FnExactOrderMaps'. -/
def fnExactOrderMapsCard : Claim7 := { stood := { row := fnExactOrderMapsRow, standIns := [], harness := (true, "3fa24fa310e518330814953cfcc0c9a905edc056f5954bb23652279c59f3099d"), looks := false }, kinds := [], alts := [], laidByText := true, laidKinds := [.data], laidTests := true, laidLooks := .later }
def FnExactOrderMapsCardSaid : Prop := Claim7.holds Tryd.pinned (.plain (OpenSpec.ofChange fnExactOrderMapsSpec)) fnExactOrderMapsCard

/-- THE TIED CARD OF 'laws.FnExactOrderSame'. -/
def fnExactOrderSameCard : Claim7 := { stood := { row := fnExactOrderSameRow, standIns := [], harness := (true, "3fa24fa310e518330814953cfcc0c9a905edc056f5954bb23652279c59f3099d"), looks := false }, kinds := [], alts := [], laidByText := true, laidKinds := [.data], laidTests := true, laidLooks := .later }
def FnExactOrderSameCardSaid : Prop := Claim7.holds Tryd.pinned (.plain (OpenSpec.ofChange fnExactOrderSameSpec)) fnExactOrderSameCard

/-- THE TIED CARD OF 'laws.FnExactOrderWays'. -/
def fnExactOrderWaysCard : Claim7 := { stood := { row := fnExactOrderWaysRow, standIns := [], harness := (true, "3fa24fa310e518330814953cfcc0c9a905edc056f5954bb23652279c59f3099d"), looks := false }, kinds := [], alts := [], laidByText := true, laidKinds := [.data], laidTests := true, laidLooks := .later }
def FnExactOrderWaysCardSaid : Prop := Claim7.holds Tryd.pinned (.plain (OpenSpec.ofChange fnExactOrderWaysSpec)) fnExactOrderWaysCard

/-- THE TIED CARD OF 'laws.FnHeight'. -/
def fnHeightCard : Claim7 := { stood := { row := fnHeightRow, standIns := [], harness := (true, "3fa24fa310e518330814953cfcc0c9a905edc056f5954bb23652279c59f3099d"), looks := false }, kinds := [], alts := [], laidByText := true, laidKinds := [.data], laidTests := true, laidLooks := .later }
def FnHeightCardSaid : Prop := Claim7.holds Tryd.pinned (.plain (OpenSpec.ofChange fnHeightSpec)) fnHeightCard

/-- THE TIED CARD OF 'laws.FnWays'. -/
def fnWaysCard : Claim7 := { stood := { row := fnWaysRow, standIns := [], harness := (true, "3fa24fa310e518330814953cfcc0c9a905edc056f5954bb23652279c59f3099d"), looks := false }, kinds := [], alts := [], laidByText := true, laidKinds := [.data], laidTests := true, laidLooks := .later }
def FnWaysCardSaid : Prop := Claim7.holds Tryd.pinned (.plain (OpenSpec.ofChange fnWaysSpec)) fnWaysCard

/-- THE SECOND FORM's CARD OF 'laws.FnExactOrderLeast'. -/
def fnExactOrderLeastUptoCard : Claim7 := { stood := { row := fnExactOrderLeastUptoRow, standIns := [], harness := (true, "3fa24fa310e518330814953cfcc0c9a905edc056f5954bb23652279c59f3099d"), looks := false }, kinds := [], alts := [], laidByText := true, laidKinds := [.data], laidTests := true, laidLooks := .later }
def FnExactOrderLeastUptoCardSaid : Prop := Claim7.holds Tryd.pinned (.plain (OpenSpec.upto fnExactOrderLeastSpec)) fnExactOrderLeastUptoCard

/-- THE SECOND FORM's CARD OF 'laws.FnExactOrderJoin'. -/
def fnExactOrderJoinUptoCard : Claim7 := { stood := { row := fnExactOrderJoinUptoRow, standIns := [], harness := (true, "3fa24fa310e518330814953cfcc0c9a905edc056f5954bb23652279c59f3099d"), looks := false }, kinds := [], alts := [], laidByText := true, laidKinds := [.data], laidTests := true, laidLooks := .later }
def FnExactOrderJoinUptoCardSaid : Prop := Claim7.holds Tryd.pinned (.plain (OpenSpec.upto fnExactOrderJoinSpec)) fnExactOrderJoinUptoCard

/-- THE SECOND FORM's CARD OF 'laws.FnExactOrderMeet'. -/
def fnExactOrderMeetUptoCard : Claim7 := { stood := { row := fnExactOrderMeetUptoRow, standIns := [], harness := (true, "3fa24fa310e518330814953cfcc0c9a905edc056f5954bb23652279c59f3099d"), looks := false }, kinds := [], alts := [], laidByText := true, laidKinds := [.data], laidTests := true, laidLooks := .later }
def FnExactOrderMeetUptoCardSaid : Prop := Claim7.holds Tryd.pinned (.plain (OpenSpec.upto fnExactOrderMeetSpec)) fnExactOrderMeetUptoCard

/-- THE SECOND FORM's CARD OF 'laws.FnExactOrderCovers'. -/
def fnExactOrderCoversUptoCard : Claim7 := { stood := { row := fnExactOrderCoversUptoRow, standIns := [], harness := (true, "3fa24fa310e518330814953cfcc0c9a905edc056f5954bb23652279c59f3099d"), looks := false }, kinds := [], alts := [], laidByText := true, laidKinds := [.data], laidTests := true, laidLooks := .later }
def FnExactOrderCoversUptoCardSaid : Prop := Claim7.holds Tryd.pinned (.plain (OpenSpec.upto fnExactOrderCoversSpec)) fnExactOrderCoversUptoCard

/-- THE SECOND FORM's CARD OF 'laws.FnExactOrderFrom'. -/
def fnExactOrderFromUptoCard : Claim7 := { stood := { row := fnExactOrderFromUptoRow, standIns := [], harness := (true, "3fa24fa310e518330814953cfcc0c9a905edc056f5954bb23652279c59f3099d"), looks := false }, kinds := [], alts := [], laidByText := true, laidKinds := [.data], laidTests := true, laidLooks := .later }
def FnExactOrderFromUptoCardSaid : Prop := Claim7.holds Tryd.pinned (.plain (OpenSpec.upto fnExactOrderFromSpec)) fnExactOrderFromUptoCard

/-- THE SECOND FORM's CARD OF 'laws.FnExactOrderBack'. -/
def fnExactOrderBackUptoCard : Claim7 := { stood := { row := fnExactOrderBackUptoRow, standIns := [], harness := (true, "3fa24fa310e518330814953cfcc0c9a905edc056f5954bb23652279c59f3099d"), looks := false }, kinds := [], alts := [], laidByText := true, laidKinds := [.data], laidTests := true, laidLooks := .later }
def FnExactOrderBackUptoCardSaid : Prop := Claim7.holds Tryd.pinned (.plain (OpenSpec.upto fnExactOrderBackSpec)) fnExactOrderBackUptoCard

/-- THE SECOND FORM's CARD OF 'laws.FnExactOrderHeight'. -/
def fnExactOrderHeightUptoCard : Claim7 := { stood := { row := fnExactOrderHeightUptoRow, standIns := [], harness := (true, "3fa24fa310e518330814953cfcc0c9a905edc056f5954bb23652279c59f3099d"), looks := false }, kinds := [], alts := [], laidByText := true, laidKinds := [.data], laidTests := true, laidLooks := .later }
def FnExactOrderHeightUptoCardSaid : Prop := Claim7.holds Tryd.pinned (.plain (OpenSpec.upto fnExactOrderHeightSpec)) fnExactOrderHeightUptoCard

/-- THE SECOND FORM's CARD OF 'laws.FnExactDomainIs'. -/
def fnExactDomainIsUptoCard : Claim7 := { stood := { row := fnExactDomainIsUptoRow, standIns := [], harness := (true, "3fa24fa310e518330814953cfcc0c9a905edc056f5954bb23652279c59f3099d"), looks := false }, kinds := [], alts := [], laidByText := true, laidKinds := [.data], laidTests := true, laidLooks := .later }
def FnExactDomainIsUptoCardSaid : Prop := Claim7.holds Tryd.pinned (.plain (OpenSpec.upto fnExactDomainIsSpec)) fnExactDomainIsUptoCard

/-- THE SECOND FORM's CARD OF 'laws.FnExactOrderMaps'. -/
def fnExactOrderMapsUptoCard : Claim7 := { stood := { row := fnExactOrderMapsUptoRow, standIns := [], harness := (true, "3fa24fa310e518330814953cfcc0c9a905edc056f5954bb23652279c59f3099d"), looks := false }, kinds := [], alts := [], laidByText := true, laidKinds := [.data], laidTests := true, laidLooks := .later }
def FnExactOrderMapsUptoCardSaid : Prop := Claim7.holds Tryd.pinned (.plain (OpenSpec.upto fnExactOrderMapsSpec)) fnExactOrderMapsUptoCard

/-- THE SECOND FORM's CARD OF 'laws.FnExactOrderSame'. -/
def fnExactOrderSameUptoCard : Claim7 := { stood := { row := fnExactOrderSameUptoRow, standIns := [], harness := (true, "3fa24fa310e518330814953cfcc0c9a905edc056f5954bb23652279c59f3099d"), looks := false }, kinds := [], alts := [], laidByText := true, laidKinds := [.data], laidTests := true, laidLooks := .later }
def FnExactOrderSameUptoCardSaid : Prop := Claim7.holds Tryd.pinned (.plain (OpenSpec.upto fnExactOrderSameSpec)) fnExactOrderSameUptoCard

/-- THE SECOND FORM's CARD OF 'laws.FnExactOrderWays'. -/
def fnExactOrderWaysUptoCard : Claim7 := { stood := { row := fnExactOrderWaysUptoRow, standIns := [], harness := (true, "3fa24fa310e518330814953cfcc0c9a905edc056f5954bb23652279c59f3099d"), looks := false }, kinds := [], alts := [], laidByText := true, laidKinds := [.data], laidTests := true, laidLooks := .later }
def FnExactOrderWaysUptoCardSaid : Prop := Claim7.holds Tryd.pinned (.plain (OpenSpec.upto fnExactOrderWaysSpec)) fnExactOrderWaysUptoCard

/-- THE SECOND FORM's CARD OF 'laws.FnHeight'. -/
def fnHeightUptoCard : Claim7 := { stood := { row := fnHeightUptoRow, standIns := [], harness := (true, "3fa24fa310e518330814953cfcc0c9a905edc056f5954bb23652279c59f3099d"), looks := false }, kinds := [], alts := [], laidByText := true, laidKinds := [.data], laidTests := true, laidLooks := .later }
def FnHeightUptoCardSaid : Prop := Claim7.holds Tryd.pinned (.plain (OpenSpec.upto fnHeightSpec)) fnHeightUptoCard

/-- THE SECOND FORM's CARD OF 'laws.FnWays'. -/
def fnWaysUptoCard : Claim7 := { stood := { row := fnWaysUptoRow, standIns := [], harness := (true, "3fa24fa310e518330814953cfcc0c9a905edc056f5954bb23652279c59f3099d"), looks := false }, kinds := [], alts := [], laidByText := true, laidKinds := [.data], laidTests := true, laidLooks := .later }
def FnWaysUptoCardSaid : Prop := Claim7.holds Tryd.pinned (.plain (OpenSpec.upto fnWaysSpec)) fnWaysUptoCard
end Rows
end Go.Proofs.YtcmpbdpghoadeaaDoor
