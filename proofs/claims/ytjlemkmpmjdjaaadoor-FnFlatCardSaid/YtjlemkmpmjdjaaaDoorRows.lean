/-
  NARROWER THAN 'FOR EVERY INPUT', by the rows' own cells (each row's printed sentence says how): FnOrder: laid · FnBelow: laid · FnLeast: laid · FnJoin: laid · FnMeet: laid · FnCovers: laid · FnFrom: laid · FnHeight: laid · FnDomain: laid · FnFlat: laid · FnChain: laid · FnExactOrderFrom: laid · FnExactOrderWays: laid.
  DERIVED. THE GIVEN ROWS OF THIS SEAT. 13 by the template 'for every input the law returns true; each argument reads behind the call as it read before'; 0 by the template 'total and deterministic' (their statements: YtjlemkmpmjdjaaaDoorTotals.lean).
  GIVEN WITH THE SEED: the statements are not yours to turn. If you find one false, say at which input.
  Laid BY PROGRAM, IN A SANDBOX (cutbox-rows.mjs): the forced cells as the released guide's own fill.sh prints them over the translation fcab23bd9e2be6d9… (all of the seat's roots in one cut). By AI agents, Wed Nov 11 2026. No macro, syntax, notation, axiom, sorry.
-/
import Derived.Test.YtjlemkmpmjdjaaaDoorChecked
import GoSem.Claim
import GoSem.ClaimJoined
import GoSem.ClaimMapViews
import Derived.JoinedTies
import Derived.KernelRfl
namespace Go.Proofs.YtjlemkmpmjdjaaaDoor
/- THE CELL 'sum', in the pinned program and in every row, IS THE sha256 OF THE DUMP (.gsa) THAT YtjlemkmpmjdjaaaDoorProg.lean LOADS. Nothing in Lean hashes anything: it is a label: what it is worth is what the hold of that sum in a sandbox is worth. -/
noncomputable def Tryd.pinned : Pinned := { name := "ytjlemkmpmjdjaaadoor", sum := "fcab23bd9e2be6d9b58a5aa8d761596678a384656c0cdb105a69c87f4aef4af6", checked := Tryd.checked }
namespace Rows
def none {H : Type} : Left H := { results := [], args := [] }

/- WHAT THE LISTED PACKAGE-LEVEL VARIABLES READ AS WHEN THE CALL BEGINS. Each datum BY PROGRAM (the guide's laid-datum.mjs) off the statement by which the dump's own 'gosem.cut.vars' lays the variable. In a bare row this is a premise. The card (YtjlemkmpmjdjaaaDoorCards.lean) ties it to the program's text. -/
def laid_math_bits_deBruijn64tab {H : Type} : DataW H := .agg [.lit (.int .u8 0), .lit (.int .u8 1), .lit (.int .u8 56), .lit (.int .u8 2), .lit (.int .u8 57), .lit (.int .u8 49), .lit (.int .u8 28), .lit (.int .u8 3), .lit (.int .u8 61), .lit (.int .u8 58), .lit (.int .u8 42), .lit (.int .u8 50), .lit (.int .u8 38), .lit (.int .u8 29), .lit (.int .u8 17), .lit (.int .u8 4), .lit (.int .u8 62), .lit (.int .u8 47), .lit (.int .u8 59), .lit (.int .u8 36), .lit (.int .u8 45), .lit (.int .u8 43), .lit (.int .u8 51), .lit (.int .u8 22), .lit (.int .u8 53), .lit (.int .u8 39), .lit (.int .u8 33), .lit (.int .u8 30), .lit (.int .u8 24), .lit (.int .u8 18), .lit (.int .u8 12), .lit (.int .u8 5), .lit (.int .u8 63), .lit (.int .u8 55), .lit (.int .u8 48), .lit (.int .u8 27), .lit (.int .u8 60), .lit (.int .u8 41), .lit (.int .u8 37), .lit (.int .u8 16), .lit (.int .u8 46), .lit (.int .u8 35), .lit (.int .u8 44), .lit (.int .u8 21), .lit (.int .u8 52), .lit (.int .u8 32), .lit (.int .u8 23), .lit (.int .u8 11), .lit (.int .u8 54), .lit (.int .u8 26), .lit (.int .u8 40), .lit (.int .u8 15), .lit (.int .u8 34), .lit (.int .u8 20), .lit (.int .u8 31), .lit (.int .u8 10), .lit (.int .u8 25), .lit (.int .u8 14), .lit (.int .u8 19), .lit (.int .u8 9), .lit (.int .u8 13), .lit (.int .u8 8), .lit (.int .u8 7), .lit (.int .u8 6)]

/-- 'laws.FnOrder': WHATEVER THE INPUT: true; the input reads as it did. -/
def fnOrderSpec : ChangeSpec := { name := "fnOrder", fn := fun _ => fun
  | [d] => { results := [.lit (.bool true)], args := [d] }
  | _ => none }
def fnOrderRow : OpenClaim := { program := "ytjlemkmpmjdjaaadoor", sum := "fcab23bd9e2be6d9b58a5aa8d761596678a384656c0cdb105a69c87f4aef4af6", func := "loop.example/scottdomains/laws.FnOrder", spec := "fnOrder", named := ["math/bits.deBruijn64tab"], apart := false, laid := [("math/bits.deBruijn64tab", laid_math_bits_deBruijn64tab)] }
def FnOrderSaid : Prop := fnOrderRow.holds Tryd.pinned (OpenSpec.ofChange fnOrderSpec)

/-- ITS FALSE NEIGHBOUR: 'it returns false'. Refute it at one input. -/
def fnOrderWrong : ChangeSpec := { name := "fnOrder", fn := fun _ => fun
  | [d] => { results := [.lit (.bool false)], args := [d] }
  | _ => none }
def FnOrderWrongFalsely : Prop := fnOrderRow.holds Tryd.pinned (OpenSpec.ofChange fnOrderWrong)

/-- 'laws.FnBelow': WHATEVER THE INPUT: true; the input reads as it did. -/
def fnBelowSpec : ChangeSpec := { name := "fnBelow", fn := fun _ => fun
  | [d] => { results := [.lit (.bool true)], args := [d] }
  | _ => none }
def fnBelowRow : OpenClaim := { program := "ytjlemkmpmjdjaaadoor", sum := "fcab23bd9e2be6d9b58a5aa8d761596678a384656c0cdb105a69c87f4aef4af6", func := "loop.example/scottdomains/laws.FnBelow", spec := "fnBelow", unfollowed := true, recurses := true, named := ["math/bits.deBruijn64tab"], apart := false, laid := [("math/bits.deBruijn64tab", laid_math_bits_deBruijn64tab)] }
def FnBelowSaid : Prop := fnBelowRow.holds Tryd.pinned (OpenSpec.ofChange fnBelowSpec)

/-- ITS FALSE NEIGHBOUR: 'it returns false'. Refute it at one input. -/
def fnBelowWrong : ChangeSpec := { name := "fnBelow", fn := fun _ => fun
  | [d] => { results := [.lit (.bool false)], args := [d] }
  | _ => none }
def FnBelowWrongFalsely : Prop := fnBelowRow.holds Tryd.pinned (OpenSpec.ofChange fnBelowWrong)

/-- 'laws.FnLeast': WHATEVER THE INPUT: true; the input reads as it did. -/
def fnLeastSpec : ChangeSpec := { name := "fnLeast", fn := fun _ => fun
  | [d] => { results := [.lit (.bool true)], args := [d] }
  | _ => none }
def fnLeastRow : OpenClaim := { program := "ytjlemkmpmjdjaaadoor", sum := "fcab23bd9e2be6d9b58a5aa8d761596678a384656c0cdb105a69c87f4aef4af6", func := "loop.example/scottdomains/laws.FnLeast", spec := "fnLeast", unfollowed := true, recurses := true, named := ["math/bits.deBruijn64tab"], apart := false, laid := [("math/bits.deBruijn64tab", laid_math_bits_deBruijn64tab)] }
def FnLeastSaid : Prop := fnLeastRow.holds Tryd.pinned (OpenSpec.ofChange fnLeastSpec)

/-- ITS FALSE NEIGHBOUR: 'it returns false'. Refute it at one input. -/
def fnLeastWrong : ChangeSpec := { name := "fnLeast", fn := fun _ => fun
  | [d] => { results := [.lit (.bool false)], args := [d] }
  | _ => none }
def FnLeastWrongFalsely : Prop := fnLeastRow.holds Tryd.pinned (OpenSpec.ofChange fnLeastWrong)

/-- 'laws.FnJoin': WHATEVER THE INPUT: true; the input reads as it did. -/
def fnJoinSpec : ChangeSpec := { name := "fnJoin", fn := fun _ => fun
  | [d] => { results := [.lit (.bool true)], args := [d] }
  | _ => none }
def fnJoinRow : OpenClaim := { program := "ytjlemkmpmjdjaaadoor", sum := "fcab23bd9e2be6d9b58a5aa8d761596678a384656c0cdb105a69c87f4aef4af6", func := "loop.example/scottdomains/laws.FnJoin", spec := "fnJoin", unfollowed := true, recurses := true, named := ["math/bits.deBruijn64tab"], apart := false, laid := [("math/bits.deBruijn64tab", laid_math_bits_deBruijn64tab)] }
def FnJoinSaid : Prop := fnJoinRow.holds Tryd.pinned (OpenSpec.ofChange fnJoinSpec)

/-- ITS FALSE NEIGHBOUR: 'it returns false'. Refute it at one input. -/
def fnJoinWrong : ChangeSpec := { name := "fnJoin", fn := fun _ => fun
  | [d] => { results := [.lit (.bool false)], args := [d] }
  | _ => none }
def FnJoinWrongFalsely : Prop := fnJoinRow.holds Tryd.pinned (OpenSpec.ofChange fnJoinWrong)

/-- 'laws.FnMeet': WHATEVER THE INPUT: true; the input reads as it did. -/
def fnMeetSpec : ChangeSpec := { name := "fnMeet", fn := fun _ => fun
  | [d] => { results := [.lit (.bool true)], args := [d] }
  | _ => none }
def fnMeetRow : OpenClaim := { program := "ytjlemkmpmjdjaaadoor", sum := "fcab23bd9e2be6d9b58a5aa8d761596678a384656c0cdb105a69c87f4aef4af6", func := "loop.example/scottdomains/laws.FnMeet", spec := "fnMeet", unfollowed := true, recurses := true, named := ["math/bits.deBruijn64tab"], apart := false, laid := [("math/bits.deBruijn64tab", laid_math_bits_deBruijn64tab)] }
def FnMeetSaid : Prop := fnMeetRow.holds Tryd.pinned (OpenSpec.ofChange fnMeetSpec)

/-- ITS FALSE NEIGHBOUR: 'it returns false'. Refute it at one input. -/
def fnMeetWrong : ChangeSpec := { name := "fnMeet", fn := fun _ => fun
  | [d] => { results := [.lit (.bool false)], args := [d] }
  | _ => none }
def FnMeetWrongFalsely : Prop := fnMeetRow.holds Tryd.pinned (OpenSpec.ofChange fnMeetWrong)

/-- 'laws.FnCovers': WHATEVER THE INPUT: true; the input reads as it did. -/
def fnCoversSpec : ChangeSpec := { name := "fnCovers", fn := fun _ => fun
  | [d] => { results := [.lit (.bool true)], args := [d] }
  | _ => none }
def fnCoversRow : OpenClaim := { program := "ytjlemkmpmjdjaaadoor", sum := "fcab23bd9e2be6d9b58a5aa8d761596678a384656c0cdb105a69c87f4aef4af6", func := "loop.example/scottdomains/laws.FnCovers", spec := "fnCovers", unfollowed := true, recurses := true, named := ["math/bits.deBruijn64tab"], apart := false, laid := [("math/bits.deBruijn64tab", laid_math_bits_deBruijn64tab)] }
def FnCoversSaid : Prop := fnCoversRow.holds Tryd.pinned (OpenSpec.ofChange fnCoversSpec)

/-- ITS FALSE NEIGHBOUR: 'it returns false'. Refute it at one input. -/
def fnCoversWrong : ChangeSpec := { name := "fnCovers", fn := fun _ => fun
  | [d] => { results := [.lit (.bool false)], args := [d] }
  | _ => none }
def FnCoversWrongFalsely : Prop := fnCoversRow.holds Tryd.pinned (OpenSpec.ofChange fnCoversWrong)

/-- 'laws.FnFrom': WHATEVER THE INPUT: true; the input reads as it did. -/
def fnFromSpec : ChangeSpec := { name := "fnFrom", fn := fun _ => fun
  | [d] => { results := [.lit (.bool true)], args := [d] }
  | _ => none }
def fnFromRow : OpenClaim := { program := "ytjlemkmpmjdjaaadoor", sum := "fcab23bd9e2be6d9b58a5aa8d761596678a384656c0cdb105a69c87f4aef4af6", func := "loop.example/scottdomains/laws.FnFrom", spec := "fnFrom", unfollowed := true, recurses := true, named := ["math/bits.deBruijn64tab"], apart := false, laid := [("math/bits.deBruijn64tab", laid_math_bits_deBruijn64tab)] }
def FnFromSaid : Prop := fnFromRow.holds Tryd.pinned (OpenSpec.ofChange fnFromSpec)

/-- ITS FALSE NEIGHBOUR: 'it returns false'. Refute it at one input. -/
def fnFromWrong : ChangeSpec := { name := "fnFrom", fn := fun _ => fun
  | [d] => { results := [.lit (.bool false)], args := [d] }
  | _ => none }
def FnFromWrongFalsely : Prop := fnFromRow.holds Tryd.pinned (OpenSpec.ofChange fnFromWrong)

/-- 'laws.FnHeight': WHATEVER THE INPUT: true; the input reads as it did. -/
def fnHeightSpec : ChangeSpec := { name := "fnHeight", fn := fun _ => fun
  | [d] => { results := [.lit (.bool true)], args := [d] }
  | _ => none }
def fnHeightRow : OpenClaim := { program := "ytjlemkmpmjdjaaadoor", sum := "fcab23bd9e2be6d9b58a5aa8d761596678a384656c0cdb105a69c87f4aef4af6", func := "loop.example/scottdomains/laws.FnHeight", spec := "fnHeight", unfollowed := true, recurses := true, named := ["math/bits.deBruijn64tab"], apart := false, laid := [("math/bits.deBruijn64tab", laid_math_bits_deBruijn64tab)] }
def FnHeightSaid : Prop := fnHeightRow.holds Tryd.pinned (OpenSpec.ofChange fnHeightSpec)

/-- ITS FALSE NEIGHBOUR: 'it returns false'. Refute it at one input. -/
def fnHeightWrong : ChangeSpec := { name := "fnHeight", fn := fun _ => fun
  | [d] => { results := [.lit (.bool false)], args := [d] }
  | _ => none }
def FnHeightWrongFalsely : Prop := fnHeightRow.holds Tryd.pinned (OpenSpec.ofChange fnHeightWrong)

/-- 'laws.FnDomain': WHATEVER THE INPUT: true; the input reads as it did. -/
def fnDomainSpec : ChangeSpec := { name := "fnDomain", fn := fun _ => fun
  | [d] => { results := [.lit (.bool true)], args := [d] }
  | _ => none }
def fnDomainRow : OpenClaim := { program := "ytjlemkmpmjdjaaadoor", sum := "fcab23bd9e2be6d9b58a5aa8d761596678a384656c0cdb105a69c87f4aef4af6", func := "loop.example/scottdomains/laws.FnDomain", spec := "fnDomain", unfollowed := true, recurses := true, named := ["math/bits.deBruijn64tab"], apart := false, laid := [("math/bits.deBruijn64tab", laid_math_bits_deBruijn64tab)] }
def FnDomainSaid : Prop := fnDomainRow.holds Tryd.pinned (OpenSpec.ofChange fnDomainSpec)

/-- ITS FALSE NEIGHBOUR: 'it returns false'. Refute it at one input. -/
def fnDomainWrong : ChangeSpec := { name := "fnDomain", fn := fun _ => fun
  | [d] => { results := [.lit (.bool false)], args := [d] }
  | _ => none }
def FnDomainWrongFalsely : Prop := fnDomainRow.holds Tryd.pinned (OpenSpec.ofChange fnDomainWrong)

/-- 'laws.FnFlat': WHATEVER THE INPUT: true; the input reads as it did. -/
def fnFlatSpec : ChangeSpec := { name := "fnFlat", fn := fun _ => fun
  | [d] => { results := [.lit (.bool true)], args := [d] }
  | _ => none }
def fnFlatRow : OpenClaim := { program := "ytjlemkmpmjdjaaadoor", sum := "fcab23bd9e2be6d9b58a5aa8d761596678a384656c0cdb105a69c87f4aef4af6", func := "loop.example/scottdomains/laws.FnFlat", spec := "fnFlat", unfollowed := true, recurses := true, named := ["math/bits.deBruijn64tab"], apart := false, laid := [("math/bits.deBruijn64tab", laid_math_bits_deBruijn64tab)] }
def FnFlatSaid : Prop := fnFlatRow.holds Tryd.pinned (OpenSpec.ofChange fnFlatSpec)

/-- ITS FALSE NEIGHBOUR: 'it returns false'. Refute it at one input. -/
def fnFlatWrong : ChangeSpec := { name := "fnFlat", fn := fun _ => fun
  | [d] => { results := [.lit (.bool false)], args := [d] }
  | _ => none }
def FnFlatWrongFalsely : Prop := fnFlatRow.holds Tryd.pinned (OpenSpec.ofChange fnFlatWrong)

/-- 'laws.FnChain': WHATEVER THE INPUT: true; the input reads as it did. -/
def fnChainSpec : ChangeSpec := { name := "fnChain", fn := fun _ => fun
  | [d] => { results := [.lit (.bool true)], args := [d] }
  | _ => none }
def fnChainRow : OpenClaim := { program := "ytjlemkmpmjdjaaadoor", sum := "fcab23bd9e2be6d9b58a5aa8d761596678a384656c0cdb105a69c87f4aef4af6", func := "loop.example/scottdomains/laws.FnChain", spec := "fnChain", unfollowed := true, recurses := true, named := ["math/bits.deBruijn64tab"], apart := false, laid := [("math/bits.deBruijn64tab", laid_math_bits_deBruijn64tab)] }
def FnChainSaid : Prop := fnChainRow.holds Tryd.pinned (OpenSpec.ofChange fnChainSpec)

/-- ITS FALSE NEIGHBOUR: 'it returns false'. Refute it at one input. -/
def fnChainWrong : ChangeSpec := { name := "fnChain", fn := fun _ => fun
  | [d] => { results := [.lit (.bool false)], args := [d] }
  | _ => none }
def FnChainWrongFalsely : Prop := fnChainRow.holds Tryd.pinned (OpenSpec.ofChange fnChainWrong)

/-- 'laws.FnExactOrderFrom': WHATEVER THE INPUT: true; the input reads as it did. -/
def fnExactOrderFromSpec : ChangeSpec := { name := "fnExactOrderFrom", fn := fun _ => fun
  | [d] => { results := [.lit (.bool true)], args := [d] }
  | _ => none }
def fnExactOrderFromRow : OpenClaim := { program := "ytjlemkmpmjdjaaadoor", sum := "fcab23bd9e2be6d9b58a5aa8d761596678a384656c0cdb105a69c87f4aef4af6", func := "loop.example/scottdomains/laws.FnExactOrderFrom", spec := "fnExactOrderFrom", unfollowed := true, recurses := true, named := ["math/bits.deBruijn64tab"], apart := false, laid := [("math/bits.deBruijn64tab", laid_math_bits_deBruijn64tab)] }
def FnExactOrderFromSaid : Prop := fnExactOrderFromRow.holds Tryd.pinned (OpenSpec.ofChange fnExactOrderFromSpec)

/-- ITS FALSE NEIGHBOUR: 'it returns false'. Refute it at one input. -/
def fnExactOrderFromWrong : ChangeSpec := { name := "fnExactOrderFrom", fn := fun _ => fun
  | [d] => { results := [.lit (.bool false)], args := [d] }
  | _ => none }
def FnExactOrderFromWrongFalsely : Prop := fnExactOrderFromRow.holds Tryd.pinned (OpenSpec.ofChange fnExactOrderFromWrong)

/-- 'laws.FnExactOrderWays': WHATEVER THE INPUT: true; the input reads as it did. -/
def fnExactOrderWaysSpec : ChangeSpec := { name := "fnExactOrderWays", fn := fun _ => fun
  | [d] => { results := [.lit (.bool true)], args := [d] }
  | _ => none }
def fnExactOrderWaysRow : OpenClaim := { program := "ytjlemkmpmjdjaaadoor", sum := "fcab23bd9e2be6d9b58a5aa8d761596678a384656c0cdb105a69c87f4aef4af6", func := "loop.example/scottdomains/laws.FnExactOrderWays", spec := "fnExactOrderWays", unfollowed := true, recurses := true, named := ["math/bits.deBruijn64tab"], apart := false, laid := [("math/bits.deBruijn64tab", laid_math_bits_deBruijn64tab)] }
def FnExactOrderWaysSaid : Prop := fnExactOrderWaysRow.holds Tryd.pinned (OpenSpec.ofChange fnExactOrderWaysSpec)

/-- ITS FALSE NEIGHBOUR: 'it returns false'. Refute it at one input. -/
def fnExactOrderWaysWrong : ChangeSpec := { name := "fnExactOrderWays", fn := fun _ => fun
  | [d] => { results := [.lit (.bool false)], args := [d] }
  | _ => none }
def FnExactOrderWaysWrongFalsely : Prop := fnExactOrderWaysRow.holds Tryd.pinned (OpenSpec.ofChange fnExactOrderWaysWrong)

/- THE SECOND FORM. 'bulk': how many values and letters a reading holds, each counted each time it is reached (what is shared counts as often as it is met; a slice's spare places count too). A statement '..UptoSaid' is the law's where the arguments, and the package variables that the reading takes, are together of bulk at most 1048576: NARROWER than '..Said'. Prove '..Said' where nothing that the law and all that it calls make is longer than what came in: it says more and counts as full. Else prove '..UptoSaid'. A law counts once. -/
mutual
def uptoBulk {H : Type} : DataW H → Nat
  | .lit (.string bytes) => bytes.length + 1
  | .lit _ => 1
  | .nil => 1
  | .ptr d => uptoBulk d + 1
  | .slice elems spare => uptoBulkAll elems + uptoBulkAll spare + 1
  | .agg parts => uptoBulkAll parts + 1
  | .iface _ d => uptoBulk d + 1
  | .map entries => uptoBulkEntries entries + 1
  | .held _ => 1
def uptoBulkAll {H : Type} : List (DataW H) → Nat
  | [] => 0
  | d :: r => uptoBulk d + uptoBulkAll r
def uptoBulkEntries {H : Type} : List (Lit × DataW H) → Nat
  | [] => 0
  | x :: r => uptoBulkEntry x + uptoBulkEntries r
def uptoBulkEntry {H : Type} : Lit × DataW H → Nat
  | (.string bytes, d) => bytes.length + uptoBulk d + 1
  | (_, d) => uptoBulk d + 1
 end
def uptoSmall : (H : Type) → List (DataW H) → Bool := fun _ ds => decide (uptoBulkAll ds ≤ 1048576)
def OpenSpec.upto (s : _root_.Go.ChangeSpec) : _root_.Go.OpenSpec := { _root_.Go.OpenSpec.ofChange s with cond := some uptoSmall }

/-- 'laws.FnOrder', WHERE WHAT IT READS IS OF BULK AT MOST 1048576: true; the input reads as it did. -/
def fnOrderUptoRow : OpenClaim := { program := "ytjlemkmpmjdjaaadoor", sum := "fcab23bd9e2be6d9b58a5aa8d761596678a384656c0cdb105a69c87f4aef4af6", func := "loop.example/scottdomains/laws.FnOrder", spec := "fnOrder", named := ["math/bits.deBruijn64tab"], apart := false, laid := [("math/bits.deBruijn64tab", laid_math_bits_deBruijn64tab)], narrowed := true }
def FnOrderUptoSaid : Prop := fnOrderUptoRow.holds Tryd.pinned (OpenSpec.upto fnOrderSpec)

/-- 'laws.FnBelow', WHERE WHAT IT READS IS OF BULK AT MOST 1048576: true; the input reads as it did. -/
def fnBelowUptoRow : OpenClaim := { program := "ytjlemkmpmjdjaaadoor", sum := "fcab23bd9e2be6d9b58a5aa8d761596678a384656c0cdb105a69c87f4aef4af6", func := "loop.example/scottdomains/laws.FnBelow", spec := "fnBelow", unfollowed := true, recurses := true, named := ["math/bits.deBruijn64tab"], apart := false, laid := [("math/bits.deBruijn64tab", laid_math_bits_deBruijn64tab)], narrowed := true }
def FnBelowUptoSaid : Prop := fnBelowUptoRow.holds Tryd.pinned (OpenSpec.upto fnBelowSpec)

/-- 'laws.FnLeast', WHERE WHAT IT READS IS OF BULK AT MOST 1048576: true; the input reads as it did. -/
def fnLeastUptoRow : OpenClaim := { program := "ytjlemkmpmjdjaaadoor", sum := "fcab23bd9e2be6d9b58a5aa8d761596678a384656c0cdb105a69c87f4aef4af6", func := "loop.example/scottdomains/laws.FnLeast", spec := "fnLeast", unfollowed := true, recurses := true, named := ["math/bits.deBruijn64tab"], apart := false, laid := [("math/bits.deBruijn64tab", laid_math_bits_deBruijn64tab)], narrowed := true }
def FnLeastUptoSaid : Prop := fnLeastUptoRow.holds Tryd.pinned (OpenSpec.upto fnLeastSpec)

/-- 'laws.FnJoin', WHERE WHAT IT READS IS OF BULK AT MOST 1048576: true; the input reads as it did. -/
def fnJoinUptoRow : OpenClaim := { program := "ytjlemkmpmjdjaaadoor", sum := "fcab23bd9e2be6d9b58a5aa8d761596678a384656c0cdb105a69c87f4aef4af6", func := "loop.example/scottdomains/laws.FnJoin", spec := "fnJoin", unfollowed := true, recurses := true, named := ["math/bits.deBruijn64tab"], apart := false, laid := [("math/bits.deBruijn64tab", laid_math_bits_deBruijn64tab)], narrowed := true }
def FnJoinUptoSaid : Prop := fnJoinUptoRow.holds Tryd.pinned (OpenSpec.upto fnJoinSpec)

/-- 'laws.FnMeet', WHERE WHAT IT READS IS OF BULK AT MOST 1048576: true; the input reads as it did. -/
def fnMeetUptoRow : OpenClaim := { program := "ytjlemkmpmjdjaaadoor", sum := "fcab23bd9e2be6d9b58a5aa8d761596678a384656c0cdb105a69c87f4aef4af6", func := "loop.example/scottdomains/laws.FnMeet", spec := "fnMeet", unfollowed := true, recurses := true, named := ["math/bits.deBruijn64tab"], apart := false, laid := [("math/bits.deBruijn64tab", laid_math_bits_deBruijn64tab)], narrowed := true }
def FnMeetUptoSaid : Prop := fnMeetUptoRow.holds Tryd.pinned (OpenSpec.upto fnMeetSpec)

/-- 'laws.FnCovers', WHERE WHAT IT READS IS OF BULK AT MOST 1048576: true; the input reads as it did. -/
def fnCoversUptoRow : OpenClaim := { program := "ytjlemkmpmjdjaaadoor", sum := "fcab23bd9e2be6d9b58a5aa8d761596678a384656c0cdb105a69c87f4aef4af6", func := "loop.example/scottdomains/laws.FnCovers", spec := "fnCovers", unfollowed := true, recurses := true, named := ["math/bits.deBruijn64tab"], apart := false, laid := [("math/bits.deBruijn64tab", laid_math_bits_deBruijn64tab)], narrowed := true }
def FnCoversUptoSaid : Prop := fnCoversUptoRow.holds Tryd.pinned (OpenSpec.upto fnCoversSpec)

/-- 'laws.FnFrom', WHERE WHAT IT READS IS OF BULK AT MOST 1048576: true; the input reads as it did. -/
def fnFromUptoRow : OpenClaim := { program := "ytjlemkmpmjdjaaadoor", sum := "fcab23bd9e2be6d9b58a5aa8d761596678a384656c0cdb105a69c87f4aef4af6", func := "loop.example/scottdomains/laws.FnFrom", spec := "fnFrom", unfollowed := true, recurses := true, named := ["math/bits.deBruijn64tab"], apart := false, laid := [("math/bits.deBruijn64tab", laid_math_bits_deBruijn64tab)], narrowed := true }
def FnFromUptoSaid : Prop := fnFromUptoRow.holds Tryd.pinned (OpenSpec.upto fnFromSpec)

/-- 'laws.FnHeight', WHERE WHAT IT READS IS OF BULK AT MOST 1048576: true; the input reads as it did. -/
def fnHeightUptoRow : OpenClaim := { program := "ytjlemkmpmjdjaaadoor", sum := "fcab23bd9e2be6d9b58a5aa8d761596678a384656c0cdb105a69c87f4aef4af6", func := "loop.example/scottdomains/laws.FnHeight", spec := "fnHeight", unfollowed := true, recurses := true, named := ["math/bits.deBruijn64tab"], apart := false, laid := [("math/bits.deBruijn64tab", laid_math_bits_deBruijn64tab)], narrowed := true }
def FnHeightUptoSaid : Prop := fnHeightUptoRow.holds Tryd.pinned (OpenSpec.upto fnHeightSpec)

/-- 'laws.FnDomain', WHERE WHAT IT READS IS OF BULK AT MOST 1048576: true; the input reads as it did. -/
def fnDomainUptoRow : OpenClaim := { program := "ytjlemkmpmjdjaaadoor", sum := "fcab23bd9e2be6d9b58a5aa8d761596678a384656c0cdb105a69c87f4aef4af6", func := "loop.example/scottdomains/laws.FnDomain", spec := "fnDomain", unfollowed := true, recurses := true, named := ["math/bits.deBruijn64tab"], apart := false, laid := [("math/bits.deBruijn64tab", laid_math_bits_deBruijn64tab)], narrowed := true }
def FnDomainUptoSaid : Prop := fnDomainUptoRow.holds Tryd.pinned (OpenSpec.upto fnDomainSpec)

/-- 'laws.FnFlat', WHERE WHAT IT READS IS OF BULK AT MOST 1048576: true; the input reads as it did. -/
def fnFlatUptoRow : OpenClaim := { program := "ytjlemkmpmjdjaaadoor", sum := "fcab23bd9e2be6d9b58a5aa8d761596678a384656c0cdb105a69c87f4aef4af6", func := "loop.example/scottdomains/laws.FnFlat", spec := "fnFlat", unfollowed := true, recurses := true, named := ["math/bits.deBruijn64tab"], apart := false, laid := [("math/bits.deBruijn64tab", laid_math_bits_deBruijn64tab)], narrowed := true }
def FnFlatUptoSaid : Prop := fnFlatUptoRow.holds Tryd.pinned (OpenSpec.upto fnFlatSpec)

/-- 'laws.FnChain', WHERE WHAT IT READS IS OF BULK AT MOST 1048576: true; the input reads as it did. -/
def fnChainUptoRow : OpenClaim := { program := "ytjlemkmpmjdjaaadoor", sum := "fcab23bd9e2be6d9b58a5aa8d761596678a384656c0cdb105a69c87f4aef4af6", func := "loop.example/scottdomains/laws.FnChain", spec := "fnChain", unfollowed := true, recurses := true, named := ["math/bits.deBruijn64tab"], apart := false, laid := [("math/bits.deBruijn64tab", laid_math_bits_deBruijn64tab)], narrowed := true }
def FnChainUptoSaid : Prop := fnChainUptoRow.holds Tryd.pinned (OpenSpec.upto fnChainSpec)

/-- 'laws.FnExactOrderFrom', WHERE WHAT IT READS IS OF BULK AT MOST 1048576: true; the input reads as it did. -/
def fnExactOrderFromUptoRow : OpenClaim := { program := "ytjlemkmpmjdjaaadoor", sum := "fcab23bd9e2be6d9b58a5aa8d761596678a384656c0cdb105a69c87f4aef4af6", func := "loop.example/scottdomains/laws.FnExactOrderFrom", spec := "fnExactOrderFrom", unfollowed := true, recurses := true, named := ["math/bits.deBruijn64tab"], apart := false, laid := [("math/bits.deBruijn64tab", laid_math_bits_deBruijn64tab)], narrowed := true }
def FnExactOrderFromUptoSaid : Prop := fnExactOrderFromUptoRow.holds Tryd.pinned (OpenSpec.upto fnExactOrderFromSpec)

/-- 'laws.FnExactOrderWays', WHERE WHAT IT READS IS OF BULK AT MOST 1048576: true; the input reads as it did. -/
def fnExactOrderWaysUptoRow : OpenClaim := { program := "ytjlemkmpmjdjaaadoor", sum := "fcab23bd9e2be6d9b58a5aa8d761596678a384656c0cdb105a69c87f4aef4af6", func := "loop.example/scottdomains/laws.FnExactOrderWays", spec := "fnExactOrderWays", unfollowed := true, recurses := true, named := ["math/bits.deBruijn64tab"], apart := false, laid := [("math/bits.deBruijn64tab", laid_math_bits_deBruijn64tab)], narrowed := true }
def FnExactOrderWaysUptoSaid : Prop := fnExactOrderWaysUptoRow.holds Tryd.pinned (OpenSpec.upto fnExactOrderWaysSpec)

end Rows
end Go.Proofs.YtjlemkmpmjdjaaaDoor
