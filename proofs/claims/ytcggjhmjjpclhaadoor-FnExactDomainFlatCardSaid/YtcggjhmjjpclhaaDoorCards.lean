/-
  DERIVED. GIVEN WITH THE SEED: THE CARDS: each row of YtcggjhmjjpclhaaDoorRows.lean that lists a variable, with what it lists TIED to the program's text (the seventh form; the later family's looks); each row that meets fmt, with fmt's text TOLD by the authors' own Lean function (tested against real Go, not proved from fmt's source: count such statements apart). THE CARD IS WHAT COUNTS. Prove the row's statement (the work); the ties are given (YtcggjhmjjpclhaaDoorTie.lean); close each card by the builder's one call (the guide's Derived/Test/ToyasCard.lean, 'card_holds'). Laid BY PROGRAM, IN A SANDBOX (cutbox-door.mjs). By AI agents, Wed Nov 11 2026. No macro, syntax, notation, axiom, sorry.
-/
import Derived.Test.YtcggjhmjjpclhaaDoorRows
import GoSem.ClaimSeven
namespace Go.Proofs.YtcggjhmjjpclhaaDoor
namespace Rows

/-- THE TIED CARD OF 'laws.FnExactDomainFlat'. -/
def fnExactDomainFlatCard : Claim7 := { stood := { row := fnExactDomainFlatRow, standIns := [], harness := (true, "3f2f2229c05352cda9cdbd9d86a7dd009615dceac94c78bbd48968b590294860"), looks := false }, kinds := [], alts := [], laidByText := true, laidKinds := [.data], laidTests := true, laidLooks := .later }
def FnExactDomainFlatCardSaid : Prop := Claim7.holds Tryd.pinned (.plain (OpenSpec.ofChange fnExactDomainFlatSpec)) fnExactDomainFlatCard

/-- THE TIED CARD OF 'laws.FnExactDomainChain'. -/
def fnExactDomainChainCard : Claim7 := { stood := { row := fnExactDomainChainRow, standIns := [], harness := (true, "3f2f2229c05352cda9cdbd9d86a7dd009615dceac94c78bbd48968b590294860"), looks := false }, kinds := [], alts := [], laidByText := true, laidKinds := [.data], laidTests := true, laidLooks := .later }
def FnExactDomainChainCardSaid : Prop := Claim7.holds Tryd.pinned (.plain (OpenSpec.ofChange fnExactDomainChainSpec)) fnExactDomainChainCard

/-- THE SECOND FORM's CARD OF 'laws.FnExactDomainFlat'. -/
def fnExactDomainFlatUptoCard : Claim7 := { stood := { row := fnExactDomainFlatUptoRow, standIns := [], harness := (true, "3f2f2229c05352cda9cdbd9d86a7dd009615dceac94c78bbd48968b590294860"), looks := false }, kinds := [], alts := [], laidByText := true, laidKinds := [.data], laidTests := true, laidLooks := .later }
def FnExactDomainFlatUptoCardSaid : Prop := Claim7.holds Tryd.pinned (.plain (OpenSpec.upto fnExactDomainFlatSpec)) fnExactDomainFlatUptoCard

/-- THE SECOND FORM's CARD OF 'laws.FnExactDomainChain'. -/
def fnExactDomainChainUptoCard : Claim7 := { stood := { row := fnExactDomainChainUptoRow, standIns := [], harness := (true, "3f2f2229c05352cda9cdbd9d86a7dd009615dceac94c78bbd48968b590294860"), looks := false }, kinds := [], alts := [], laidByText := true, laidKinds := [.data], laidTests := true, laidLooks := .later }
def FnExactDomainChainUptoCardSaid : Prop := Claim7.holds Tryd.pinned (.plain (OpenSpec.upto fnExactDomainChainSpec)) fnExactDomainChainUptoCard
end Rows
end Go.Proofs.YtcggjhmjjpclhaaDoor
