/-
  DERIVED. GIVEN WITH THE SEED: THE CARDS: each row of YtiaajegdaipdmaaDoorRows.lean that lists a variable, with what it lists TIED to the program's text (the seventh form; the later family's looks); each row that meets fmt, with fmt's text TOLD by the authors' own Lean function (tested against real Go, not proved from fmt's source: count such statements apart). THE CARD IS WHAT COUNTS. Prove the row's statement (the work); the ties are given (YtiaajegdaipdmaaDoorTie.lean); close each card by the builder's one call (the guide's Derived/Test/ToyasCard.lean, 'card_holds'). Laid BY PROGRAM, IN A SANDBOX (cutbox-door.mjs). By AI agents, Wed Nov 11 2026. No macro, syntax, notation, axiom, sorry.
-/
import Derived.Test.YtiaajegdaipdmaaDoorRows
import GoSem.ClaimSeven
namespace Go.Proofs.YtiaajegdaipdmaaDoor
namespace Rows

/-- THE TIED CARD OF 'laws.FnExactPowerOrder'. -/
def fnExactPowerOrderCard : Claim7 := { stood := { row := fnExactPowerOrderRow, standIns := [], harness := (true, "2c3305f2cb5ffa14a937d8c2f62423f7a0acc109f9691a583b35bce7f409aff3"), looks := false }, kinds := [], alts := [], laidByText := true, laidKinds := [.data], laidTests := true, laidLooks := .later }
def FnExactPowerOrderCardSaid : Prop := Claim7.holds Tryd.pinned (.plain (OpenSpec.ofChange fnExactPowerOrderSpec)) fnExactPowerOrderCard

/-- THE SECOND FORM's CARD OF 'laws.FnExactPowerOrder'. -/
def fnExactPowerOrderUptoCard : Claim7 := { stood := { row := fnExactPowerOrderUptoRow, standIns := [], harness := (true, "2c3305f2cb5ffa14a937d8c2f62423f7a0acc109f9691a583b35bce7f409aff3"), looks := false }, kinds := [], alts := [], laidByText := true, laidKinds := [.data], laidTests := true, laidLooks := .later }
def FnExactPowerOrderUptoCardSaid : Prop := Claim7.holds Tryd.pinned (.plain (OpenSpec.upto fnExactPowerOrderSpec)) fnExactPowerOrderUptoCard
end Rows
end Go.Proofs.YtiaajegdaipdmaaDoor
