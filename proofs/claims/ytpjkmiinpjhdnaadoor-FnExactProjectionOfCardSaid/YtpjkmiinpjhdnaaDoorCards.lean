/-
  DERIVED. GIVEN WITH THE SEED: THE CARDS: each row of YtpjkmiinpjhdnaaDoorRows.lean that lists a variable, with what it lists TIED to the program's text (the seventh form; the later family's looks); each row that meets fmt, with fmt's text TOLD by the authors' own Lean function (tested against real Go, not proved from fmt's source: count such statements apart). THE CARD IS WHAT COUNTS. Prove the row's statement (the work); the ties are given (YtpjkmiinpjhdnaaDoorTie.lean); close each card by the builder's one call (the guide's Derived/Test/ToyasCard.lean, 'card_holds'). Laid BY PROGRAM, IN A SANDBOX (cutbox-door.mjs). By AI agents, Wed Nov 11 2026. No macro, syntax, notation, axiom, sorry.
-/
import Derived.Test.YtpjkmiinpjhdnaaDoorRows
import GoSem.ClaimSeven
namespace Go.Proofs.YtpjkmiinpjhdnaaDoor
namespace Rows

/-- THE TIED CARD OF 'laws.FnExactOrderFrom'. -/
def fnExactOrderFromCard : Claim7 := { stood := { row := fnExactOrderFromRow, standIns := [], harness := (true, "a6c3ecdbeafdd20428a590abfeb1c079b6b7de5395ca31019678cfabb6bd625d"), looks := false }, kinds := [], alts := [], laidByText := true, laidKinds := [.data], laidTests := true, laidLooks := .later }
def FnExactOrderFromCardSaid : Prop := Claim7.holds Tryd.pinned (.plain (OpenSpec.ofChange fnExactOrderFromSpec)) fnExactOrderFromCard

/-- THE TIED CARD OF 'laws.FnExactPairIs'. -/
def fnExactPairIsCard : Claim7 := { stood := { row := fnExactPairIsRow, standIns := [], harness := (true, "a6c3ecdbeafdd20428a590abfeb1c079b6b7de5395ca31019678cfabb6bd625d"), looks := false }, kinds := [], alts := [], laidByText := true, laidKinds := [.data], laidTests := true, laidLooks := .later }
def FnExactPairIsCardSaid : Prop := Claim7.holds Tryd.pinned (.plain (OpenSpec.ofChange fnExactPairIsSpec)) fnExactPairIsCard

/-- THE TIED CARD OF 'laws.FnExactPairAfter'. -/
def fnExactPairAfterCard : Claim7 := { stood := { row := fnExactPairAfterRow, standIns := [], harness := (true, "a6c3ecdbeafdd20428a590abfeb1c079b6b7de5395ca31019678cfabb6bd625d"), looks := false }, kinds := [], alts := [], laidByText := true, laidKinds := [.data], laidTests := true, laidLooks := .later }
def FnExactPairAfterCardSaid : Prop := Claim7.holds Tryd.pinned (.plain (OpenSpec.ofChange fnExactPairAfterSpec)) fnExactPairAfterCard

/-- THE TIED CARD OF 'laws.FnExactProjectionOf'. -/
def fnExactProjectionOfCard : Claim7 := { stood := { row := fnExactProjectionOfRow, standIns := [], harness := (true, "a6c3ecdbeafdd20428a590abfeb1c079b6b7de5395ca31019678cfabb6bd625d"), looks := false }, kinds := [], alts := [], laidByText := true, laidKinds := [.data], laidTests := true, laidLooks := .later }
def FnExactProjectionOfCardSaid : Prop := Claim7.holds Tryd.pinned (.plain (OpenSpec.ofChange fnExactProjectionOfSpec)) fnExactProjectionOfCard

/-- THE SECOND FORM's CARD OF 'laws.FnExactOrderFrom'. -/
def fnExactOrderFromUptoCard : Claim7 := { stood := { row := fnExactOrderFromUptoRow, standIns := [], harness := (true, "a6c3ecdbeafdd20428a590abfeb1c079b6b7de5395ca31019678cfabb6bd625d"), looks := false }, kinds := [], alts := [], laidByText := true, laidKinds := [.data], laidTests := true, laidLooks := .later }
def FnExactOrderFromUptoCardSaid : Prop := Claim7.holds Tryd.pinned (.plain (OpenSpec.upto fnExactOrderFromSpec)) fnExactOrderFromUptoCard

/-- THE SECOND FORM's CARD OF 'laws.FnExactPairIs'. -/
def fnExactPairIsUptoCard : Claim7 := { stood := { row := fnExactPairIsUptoRow, standIns := [], harness := (true, "a6c3ecdbeafdd20428a590abfeb1c079b6b7de5395ca31019678cfabb6bd625d"), looks := false }, kinds := [], alts := [], laidByText := true, laidKinds := [.data], laidTests := true, laidLooks := .later }
def FnExactPairIsUptoCardSaid : Prop := Claim7.holds Tryd.pinned (.plain (OpenSpec.upto fnExactPairIsSpec)) fnExactPairIsUptoCard

/-- THE SECOND FORM's CARD OF 'laws.FnExactPairAfter'. -/
def fnExactPairAfterUptoCard : Claim7 := { stood := { row := fnExactPairAfterUptoRow, standIns := [], harness := (true, "a6c3ecdbeafdd20428a590abfeb1c079b6b7de5395ca31019678cfabb6bd625d"), looks := false }, kinds := [], alts := [], laidByText := true, laidKinds := [.data], laidTests := true, laidLooks := .later }
def FnExactPairAfterUptoCardSaid : Prop := Claim7.holds Tryd.pinned (.plain (OpenSpec.upto fnExactPairAfterSpec)) fnExactPairAfterUptoCard

/-- THE SECOND FORM's CARD OF 'laws.FnExactProjectionOf'. -/
def fnExactProjectionOfUptoCard : Claim7 := { stood := { row := fnExactProjectionOfUptoRow, standIns := [], harness := (true, "a6c3ecdbeafdd20428a590abfeb1c079b6b7de5395ca31019678cfabb6bd625d"), looks := false }, kinds := [], alts := [], laidByText := true, laidKinds := [.data], laidTests := true, laidLooks := .later }
def FnExactProjectionOfUptoCardSaid : Prop := Claim7.holds Tryd.pinned (.plain (OpenSpec.upto fnExactProjectionOfSpec)) fnExactProjectionOfUptoCard
end Rows
end Go.Proofs.YtpjkmiinpjhdnaaDoor
