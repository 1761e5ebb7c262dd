/-
  DERIVED. GIVEN WITH THE SEED: THE CARDS: each row of YtjmeclddogdfhaaDoorRows.lean that lists a variable, with what it lists TIED to the program's text (the seventh form; the later family's looks); each row that meets fmt, with fmt's text TOLD by the authors' own Lean function (tested against real Go, not proved from fmt's source: count such statements apart). THE CARD IS WHAT COUNTS. Prove the row's statement (the work); the ties are given (YtjmeclddogdfhaaDoorTie.lean); close each card by the builder's one call (the guide's Derived/Test/ToyasCard.lean, 'card_holds'). Laid BY PROGRAM, IN A SANDBOX (cutbox-door.mjs). By AI agents, Wed Nov 11 2026. No macro, syntax, notation, axiom, sorry.
-/
import Derived.Test.YtjmeclddogdfhaaDoorRows
import GoSem.ClaimSeven
namespace Go.Proofs.YtjmeclddogdfhaaDoor
namespace Rows

/-- THE TIED CARD OF 'laws.FnExactOpenOrder'. -/
def fnExactOpenOrderCard : Claim7 := { stood := { row := fnExactOpenOrderRow, standIns := [], harness := (true, "5516ca8bbab7ce7e25dfb00a5732f922542d2faa92f52fb9e33e3fce9705518b"), looks := false }, kinds := [], alts := [], laidByText := true, laidKinds := [.data], laidTests := true, laidLooks := .later }
def FnExactOpenOrderCardSaid : Prop := Claim7.holds Tryd.pinned (.plain (OpenSpec.ofChange fnExactOpenOrderSpec)) fnExactOpenOrderCard

/-- THE SECOND FORM's CARD OF 'laws.FnExactOpenOrder'. -/
def fnExactOpenOrderUptoCard : Claim7 := { stood := { row := fnExactOpenOrderUptoRow, standIns := [], harness := (true, "5516ca8bbab7ce7e25dfb00a5732f922542d2faa92f52fb9e33e3fce9705518b"), looks := false }, kinds := [], alts := [], laidByText := true, laidKinds := [.data], laidTests := true, laidLooks := .later }
def FnExactOpenOrderUptoCardSaid : Prop := Claim7.holds Tryd.pinned (.plain (OpenSpec.upto fnExactOpenOrderSpec)) fnExactOpenOrderUptoCard
end Rows
end Go.Proofs.YtjmeclddogdfhaaDoor
